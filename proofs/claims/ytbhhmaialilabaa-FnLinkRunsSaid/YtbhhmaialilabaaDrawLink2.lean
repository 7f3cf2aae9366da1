/-
  The draws of chapter 7: a link.
-/
import Derived.Test.YtbhhmaialilabaaDrawLink
import Derived.Test.YtbhhmaialilabaaSlS
import Derived.Deep.RegionLaw
import Derived.Deep.CutBlock
import Derived.Deep.LoopGhost
namespace Go.Proofs.Ytbhhmaialilabaa
open Go.RowKit Go.Lib Go.Joins
set_option linter.unusedVariables false

theorem some_ne7 {a b : Nat} (h : a ≠ b) : (some a : Option Nat) ≠ some b := fun e => h (Option.some.inj e)
theorem pickZ7_any (B m : Nat) (x : Int) (z : List Int) (w : World) (h : Cu w B z m) (hm : m ≤ 900000) (h0 : 1 ≤ x) (hx : x ≤ 65536) :
    Calls Try.prog 69 #[.pointer (some ⟨B, 0, none⟩), .int .i64 x] w fun e w' => ∃ b : Nat, (b : Int) < x ∧ e = .returned (.int .i64 b) ∧ Cu w' B z (m + 2) ∧ w.grownBy w' (some B) := by
  obtain ⟨n, rfl⟩ : ∃ n : Nat, x = n := ⟨x.toNat, by omega⟩
  exact (pick_any B m n z w h hm (by omega) (by omega)).mono (fun e w' ⟨b, hb, he, hc, hg⟩ => ⟨b, by omega, he, hc, hg⟩)
theorem g_fresh7 {w0 w w' : World} {B k : Nat} (h : w0.grownBy w (some B)) (hg : w.grownBy w' (some k)) (hk : w0.heap.size ≤ k) : w0.grownBy w' (some B) :=
  ⟨hg.os.trans h.os, hg.tape.trans h.tape, hg.output.trans h.output, Nat.le_trans h.size hg.size, fun j hj hn => (hg.block j (Nat.lt_of_lt_of_le hj h.size) (some_ne7 (by omega))).trans (h.block j hj hn)⟩
/-- A link that is being drawn: its box R, the box Q of the result, its queue, beside the cursor. -/
structure DrK (w0 w : World) (B : Nat) (z : List Int) (m R Q : Nat) (v : Value) (l : Lk) : Prop where
  cur : Cu w B z m
  box : Lq w R v l.f l.u
  res : Lq w Q (.slice none 0 0) ⟨#[]⟩ 0
  own : w.ownsRow w0.heap.size 9 1 v l.q.length (l.q.map Value.string)
  gr : w0.grownBy w (some B)
  hB : B < w0.heap.size
  hR : w0.heap.size ≤ R
  hQ : w0.heap.size ≤ Q
  ne : R ≠ Q
  nv : ∀ k, v.ownBlock = some k → k ≠ R ∧ k ≠ Q
theorem DrK.call {w0 w w' : World} {B m m' R Q : Nat} {z : List Int} {v : Value} {l : Lk} (h : DrK w0 w B z m R Q v l) (hc : Cu w' B z m') (hg : w.grownBy w' (some B)) : DrK w0 w' B z m' R Q v l := by
  have hB := h.hB
  refine ⟨hc, h.box.grown hg (some_ne7 (by have := h.hR; omega)), h.res.grown hg (some_ne7 (by have := h.hQ; omega)), h.own.kept hg ?_, g_trans h.gr hg, hB, h.hR, h.hQ, h.ne, h.nv⟩
  cases hv : v.ownBlock with
  | none => exact .inl rfl
  | some k => exact .inr (some_ne7 (by have := (h.own.lt k hv).1; omega))
theorem DrK.mono {w0 w : World} {B m m' R Q : Nat} {z : List Int} {v : Value} {l : Lk} (h : DrK w0 w B z m R Q v l) (hm : m ≤ m') : DrK w0 w B z m' R Q v l := ⟨h.cur.mono hm, h.box, h.res, h.own, h.gr, h.hB, h.hR, h.hQ, h.ne, h.nv⟩
theorem DrK.drew {w0 w : World} {B m R Q : Nat} {z : List Int} {v : Value} {l : Lk} (h : DrK w0 w B z m R Q v l) : DrK w0 w.drew B z m R Q v l := h.call (h.cur.grown (gdrew7 _ _)) (gdrew7 _ _)
theorem DrK.alloc {w0 w : World} {B m R Q : Nat} {z : List Int} {v : Value} {l : Lk} (h : DrK w0 w B z m R Q v l) (o : Obj) : DrK w0 (w.alloc o) B z m R Q v l := h.call (h.cur.grown (World.grownBy_alloc _ _ none)) (World.grownBy_alloc _ _ _)
/-- One cell of the box is set. -/
theorem DrK.putf {w0 w : World} {B m R Q : Nat} {z : List Int} {v : Value} {l : Lk} (h : DrK w0 w B z m R Q v l) (f' : ByteArray) : DrK w0 (w.setCell ⟨R, 1, none⟩ (.string f')) B z m R Q v ⟨l.q, f', l.u⟩ := by
  obtain ⟨p1, q1⟩ := h.box.put1 f'
  refine ⟨h.cur.grown' q1 (fun k hk => by have e2 : R = k := Option.some.inj hk; have := h.hR; have := h.hB; omega), p1, h.res.grown q1 (some_ne7 (Ne.symm h.ne)), h.own.kept q1 ?_, g_fresh7 h.gr q1 h.hR, h.hB, h.hR, h.hQ, h.ne, h.nv⟩
  cases hv : v.ownBlock with
  | none => exact .inl rfl
  | some k => exact .inr (some_ne7 (h.nv k hv).1)
theorem DrK.putu {w0 w : World} {B m R Q : Nat} {z : List Int} {v : Value} {l : Lk} (h : DrK w0 w B z m R Q v l) (u' : Int) : DrK w0 (w.setCell ⟨R, 2, none⟩ (.int .i64 u')) B z m R Q v ⟨l.q, l.f, u'⟩ := by
  obtain ⟨p1, q1⟩ := h.box.put2 u'
  refine ⟨h.cur.grown' q1 (fun k hk => by have e2 : R = k := Option.some.inj hk; have := h.hR; have := h.hB; omega), p1, h.res.grown q1 (some_ne7 (Ne.symm h.ne)), h.own.kept q1 ?_, g_fresh7 h.gr q1 h.hR, h.hB, h.hR, h.hQ, h.ne, h.nv⟩
  cases hv : v.ownBlock with
  | none => exact .inl rfl
  | some k => exact .inr (some_ne7 (h.nv k hv).1)
/-- One text more: the queue is grown, its box is still to be set. -/
theorem DrK.app {w0 w w1 : World} {B m R Q : Nat} {z : List Int} {v v' : Value} {l : Lk} {x : ByteArray} (h : DrK w0 w B z m R Q v l)
    (ho : w1.ownsRow w0.heap.size 9 1 v' (l.q.length + 1) (l.q.map Value.string ++ [.string x])) (hg : (w.alloc (.cells #[.string x] 9)).grownBy w1 v.ownBlock)
    (hat : v'.ownBlock = v.ownBlock ∨ v'.ownBlock = some (w.alloc (.cells #[.string x] 9)).heap.size) :
    Lq w1 R v l.f l.u ∧ DrK w0 (w1.setCell ⟨R, 0, none⟩ v') B z m R Q v' ⟨l.q ++ [x], l.f, l.u⟩ := by
  have ha := h.alloc (.cells #[.string x] 9)
  have hbR := ha.box.grown hg (fun e => (h.nv R e.symm).1 rfl)
  have hbQ := ha.res.grown hg (fun e => (h.nv Q e.symm).2 rfl)
  have hlR := ha.box.lt
  have hlQ := ha.res.lt
  have hB := h.hB
  have hcur : Cu w1 B z m := ha.cur.grown' hg (fun k hk => by have := (h.own.lt k hk).1; omega)
  have hgr : w0.grownBy w1 (some B) := by
    have g1 := ha.gr
    cases hv : v.ownBlock with
    | none => rw [hv] at hg; exact g_trans g1 (grown_any hg)
    | some k => rw [hv] at hg; exact g_fresh7 g1 hg (h.own.lt k hv).1
  have hnv : ∀ k, v'.ownBlock = some k → k ≠ R ∧ k ≠ Q := fun k hk => by
    rcases hat with h1 | h1
    · exact h.nv k (h1.symm.trans hk)
    · have e := Option.some.inj (h1.symm.trans hk)
      omega
  obtain ⟨p1, q1⟩ := hbR.put0 v'
  have e : (l.q ++ [x]).length = l.q.length + 1 := by simp
  refine ⟨hbR, hcur.grown' q1 (fun k hk => by have e2 : R = k := Option.some.inj hk; have := h.hR; omega), p1, hbQ.grown q1 (some_ne7 (Ne.symm h.ne)), ?_, g_fresh7 hgr q1 h.hR, hB, h.hR, h.hQ, h.ne, hnv⟩
  show World.ownsRow _ _ _ _ _ (l.q ++ [x]).length ((l.q ++ [x]).map Value.string)
  rw [e, List.map_append]
  refine ho.kept q1 ?_
  cases hv : v'.ownBlock with
  | none => exact .inl rfl
  | some k => exact .inr (some_ne7 (hnv k hv).1)
theorem DrK.start {w : World} {B m m' : Nat} {z : List Int} {W : World} {f : ByteArray} (hB : B < w.heap.size) (hc : Cu W B z m) (hg : (w.alloc (.cells #[.slice none 0 0, .string ⟨#[]⟩, .int .i64 0] 26)).grownBy W (some B)) :
    DrK w (W.alloc (.cells #[.slice none 0 0, .string f, .int .i64 0] 26)) B z m W.heap.size w.heap.size (.slice none 0 0) ⟨[], f, 0⟩ := by
  have hq := (Lq.new w (.slice none 0 0) ⟨#[]⟩ 0).grown hg (some_ne7 (by omega))
  have hs := hq.lt
  refine ⟨hc.grown (World.grownBy_alloc _ _ none), Lq.new _ _ _ _, hq.grown (World.grownBy_alloc W (.cells #[.slice none 0 0, .string f, .int .i64 0] 26) none) (by simp), World.ownsRow_nil _ _ _ _, g_trans (g_trans (World.grownBy_alloc _ _ _) hg) (World.grownBy_alloc _ _ _), hB, by omega, Nat.le_refl _, by omega, fun k hk => by cases hk⟩
theorem fatesZ_any (B m : Nat) (x : Int) (z : List Int) (w : World) (h : Cu w B z m) (hm : m ≤ 800000) (h0 : 0 ≤ x) (hx : x ≤ 50) :
    Calls Try.prog 76 #[.pointer (some ⟨B, 0, none⟩), .int .i64 x] w fun e w' => ∃ s : ByteArray, s.size ≤ 50 ∧ e = .returned (.string s) ∧ Cu w' B z (m + 100) ∧ w.grownBy w' (some B) := by
  obtain ⟨n, rfl⟩ : ∃ n : Nat, x = n := ⟨x.toNat, by omega⟩
  exact (fates_any B m n z w h hm (by omega)).mono (fun e w' ⟨s, hs, he, hc, hg⟩ => ⟨s, by omega, he, hc.mono (by omega), hg⟩)
def badF : List ByteArray := [⟨#[120]⟩, ⟨#[75]⟩, ⟨#[32]⟩]
theorem badF_size : ∀ x ∈ badF, x.size = 1 := by
  intro x hx
  simp only [badF, List.mem_cons, List.not_mem_nil, or_false] at hx
  rcases hx with rfl | rfl | rfl <;> decide
set_option maxRecDepth 100000 in
set_option maxHeartbeats 8000000 in
theorem link_any (B m : Nat) (z : List Int) (w : World) (h : Cu w B z m) (hm : m ≤ 700000) :
    Calls Try.prog 57 #[.pointer (some ⟨B, 0, none⟩)] w fun e w' => ∃ (v : Value) (l : Lk), e = .returned (.agg #[v, .string l.f, .int .i64 l.u]) ∧ w'.ownsRow w.heap.size 9 1 v l.q.length (l.q.map Value.string) ∧ l.f.size ≤ 50 ∧ l.q.length ≤ 30 ∧ Cu w' B z (m + 300) ∧ w.grownBy w' (some B) := by
  obtain ⟨i0, hi, hz0, hz1, hz2⟩ := info_parts infoStr
  have HH := Lib.hid h
  have hBl := h.lt
  clear h
  go_enter Try.func57, Try.ntmps57
  go_wp2_with fail
  refine (pick_any B m 7 z _ (HH.out.grown (World.grownBy_alloc _ _ none)) (by omega) (by omega) (by omega)).mono ?_
  rintro e w1 ⟨n1, hn1, rfl, hc, hg⟩
  have HC1 := Lib.hid hc
  have HG1 := Lib.hid hg
  clear hc hg
  go_wp2_with fail
  refine (fates_any B (m + 2) n1 z _ HC1.out (by omega) (by omega)).mono ?_
  rintro e w2 ⟨f1, hf1, rfl, hc, hg⟩
  have HG2 := Lib.hid (g_trans HG1.out hg)
  have HS := Lib.hid (DrK.start (m' := 0) (f := f1) hBl hc HG2.out)
  clear hc hg HC1 HG1 HH HG2
  go_upto_region 2 with fail
  obtain ⟨W3, hW3⟩ : ∃ W3, W3 = w2.alloc (.cells #[.slice none 0 0, .string f1, .int .i64 0] 26) := ⟨_, rfl⟩
  rw [← hW3] at HS ⊢
  obtain ⟨R, hR⟩ : ∃ R, R = w2.heap.size := ⟨_, rfl⟩
  obtain ⟨Q, hQ⟩ : ∃ Q, Q = w.heap.size := ⟨_, rfl⟩
  rw [← hR, ← hQ] at HS ⊢
  clear hW3 hR hQ
  go_wp2_with fail
  refine (pick_any B (m + 2 + 2 * n1) 5 z _ HS.out.cur (by omega) (by omega) (by omega)).mono ?_
  rintro e w3 ⟨n2, hn2, rfl, hc, hg⟩
  have HS2 := Lib.hid ((HS.out.call hc hg).mono (show m + 2 + 2 * n1 + 2 ≤ m + 20 by omega))
  clear hc hg HS
  go_upto_block 0 with fail
  go_cut [4] from 12 to 22 (fun _ wr => ∃ (v : Value) (l : Lk), l.q.length ≤ 5 ∧ l.f.size ≤ 10 ∧ Hid (DrK w wr B z (m + 60) R Q v l))
  case first =>
    go_wp2_with fail
    go_loopw [4] (fun q wr => ∃ (k : Nat) (v : Value) (l : Lk), l.q.length + k ≤ 5 ∧ l.f.size ≤ 10 ∧ q = .int .i64 k ∧ Hid (DrK w wr B z (m + 20 + 4 * l.q.length) R Q v l)) (fun q _ => (RowKit.intOf q).toNat)
    case atStart => exact ⟨n2, _, ⟨[], f1, 0⟩, by simp; omega, by show f1.size ≤ 10; omega, rfl, HS2⟩
    case round =>
      clear HS2
      obtain ⟨k, v, l, hk, hlf, rfl, HD⟩ := hrel
      by_cases hkp : 0 < k
      · have hdc : decide ((0 : Int) < (k : Int)) = true := decide_eq_true (by omega)
        obtain ⟨a6, c6, rfl, _, _⟩ := own_someS0 HD.out.own
        obtain ⟨x0, x1, x2⟩ := HD.out.box.cells
        have fx := HD.out.box.free 0
        go_upto_region 5 with fail
        have HDd := Lib.hid HD.out.drew
        have hxd := HDd.out.box.cells.1
        have tokA : True := trivial
        go_region_law (first
          | (go_simp; go_at_call 58; refine (shortText_any B (m + 20 + 4 * l.q.length) z _ HDd.out.cur (by omega)).mono ?_; rintro e w5 ⟨y, hy, rfl, hc, hg⟩; have HD2 := Lib.hid (HDd.out.call hc hg); have hx2 := HD2.out.box.cells.1; have hx3 := (HD2.out.alloc (.cells #[.string y] 9)).box.cells.1; clear hc hg; dsimp only)
          | (have _t := tokA; refine step_append_row (by rfl) _ _ _ (by rfl) w.heap.size 9 i0 (.string ⟨#[]⟩) 16 Try.underlying24 hi hz0 hz1 hz2 rfl _ l.q.length (l.q.map Value.string) (by rfl) (HD2.out.alloc (.cells #[.string y] 9)).own _ 1 1 [.string y] (by rfl) (row_lit (heap_alloc_new _ _)) rfl (by intro q hq; simp at hq; subst hq; rfl) (by unfold maxLen; omega) (by omega) (HD2.out.alloc (.cells #[.string y] 9)).gr.size ?_; intro v2 w6 hown2 hgrow2 hat2; obtain ⟨a7, c7, rfl, _, _⟩ := own_someS0 hown2; obtain ⟨hbx, hd⟩ := HD2.out.app hown2 hgrow2 hat2; have HD6 := Lib.hid hd; have hx6 := hbx.cells.1; have fx6 := hbx.free 0; clear hd hbx hown2 hgrow2 hat2 tokA _t))
        all_goals go_wp2_with fail
        all_goals
          go_roundw
          case rel => exact ⟨k - 1, _, ⟨l.q ++ [y], l.f, l.u⟩, by simp; omega, hlf, by congr 1; omega, Lib.hid (HD6.out.mono (by simp; omega))⟩
          case measure => (first | (simp [RowKit.intOf]; done) | (simp [RowKit.intOf]; omega))
      · obtain rfl : k = 0 := by omega
        go_wp2_with fail
        go_meet
        case rel => exact ⟨v, l, by omega, hlf, Lib.hid (HD.out.mono (by omega))⟩
  case rest =>
    obtain ⟨v, l, hlq, hlf, HD⟩ := hcut
    rename World => W4
    clear HS2
    obtain ⟨a6, c6, rfl, _, _⟩ := own_someS0 HD.out.own
    obtain ⟨x0, x1, x2⟩ := HD.out.box.cells
    have hw1 : IntKind.i64.wrap ((l.f.size : Int) + 1) = (l.f.size : Int) + 1 := IntWalk.i64_in _ (by omega)
    go_wp2_with fail
    refine (pickZ7_any B (m + 60) _ z _ HD.out.cur (by omega) (by omega) (by omega)).mono ?_
    rintro e w5 ⟨b5, hb5, rfl, hc, hg⟩
    have HD5 := Lib.hid (HD.out.call hc hg)
    clear hc hg HD x0 x1 x2
    obtain ⟨x0, x1, x2⟩ := HD5.out.box.cells
    have fx := HD5.out.box.free 2
    go_upto_region 7 with fail
    have HD6 := Lib.hid (HD5.out.putu (b5 : Int))
    obtain ⟨W6, hW6⟩ : ∃ W6, W6 = w5.setCell ⟨R, 2, none⟩ (.int .i64 (b5 : Int)) := ⟨_, rfl⟩
    rw [← hW6] at HD6 ⊢
    clear hW6 HD5 x0 x1 x2 fx
    go_wp2_with fail
    refine (pick_any B (m + 60 + 2) 24 z _ HD6.out.cur (by omega) (by omega) (by omega)).mono ?_
    rintro e w7 ⟨k7, hk7, rfl, hc, hg⟩
    have HD := Lib.hid ((HD6.out.call hc hg).mono (show m + 60 + 2 + 2 ≤ m + 70 by omega))
    clear hc hg HD6
    obtain ⟨l2, hl2⟩ : ∃ l' : Lk, l' = ⟨l.q, l.f, (b5 : Int)⟩ := ⟨_, rfl⟩
    have hlq2 : l2.q.length ≤ 5 := by rw [hl2]; exact hlq
    have hlf2 : l2.f.size ≤ 10 := by rw [hl2]; exact hlf
    rw [← hl2] at HD
    have eq2 : l.q.length = l2.q.length := by rw [hl2]
    rw [eq2] at HD
    clear hl2 hlq hlf eq2 hw1
    go_upto_block 2 with fail
    go_cut [] from 32 to 83 (fun wr => ∃ (v : Value) (l : Lk), l.q.length ≤ 30 ∧ l.f.size ≤ 50 ∧ Hid (DrK w wr B z (m + 250) R Q v l))
    case first =>
      by_cases e0 : k7 = 0
      · subst e0
        obtain ⟨x0, x1, x2⟩ := HD.out.box.cells
        have fx := HD.out.box.free 1
        have hcat : ¬ 9223372036854775807 < l2.f.size + 1 := by omega
        go_upto_region 9 with fail
        have HDd := Lib.hid HD.out.drew
        have hxd := HDd.out.box.cells.2.1
        have hxb : (w7.alloc (.cells #[.string ⟨#[120]⟩, .string ⟨#[75]⟩, .string ⟨#[32]⟩] 9)).cell? ⟨R, 1, none⟩ = some (.string l2.f) := (HD.out.alloc _).box.cells.2.1
        go_region_law (first
          | (go_simp; go_at_call 77; refine (of_any B (m + 70) z _ badF _ (by first | exact (HDd.out.alloc (.cells (badF.map Value.string).toArray 9)).cur | exact (HD.out.alloc (.cells (badF.map Value.string).toArray 9)).drew.cur) (by omega) (by decide) (by decide) (fun w' hg => by first | exact row_fresh (xs := badF.map Value.string) (n := badF.length) (List.length_map _).symm (by decide) HD.out.cur.lt hg | exact row_fresh (xs := badF.map Value.string) (n := badF.length) (List.length_map _).symm (by decide) HD.out.cur.lt (g_trans (gdrew7 _ _) hg))).mono ?_; rintro e w8 ⟨y, hy, rfl, hc, hg⟩; have hys := badF_size y hy; have HD2 := Lib.hid (DrK.call (by first | exact (HDd.out.alloc (.cells (badF.map Value.string).toArray 9)) | exact (HD.out.alloc (.cells (badF.map Value.string).toArray 9)).drew) hc hg); have hx2 := HD2.out.box.cells.2.1; have fx2 := HD2.out.box.free 1; clear hy hc hg; dsimp only))
        all_goals go_wp2_with fail
        all_goals
          go_meet
          case rel => exact ⟨_, _, by show l2.q.length ≤ 30; omega, by show (l2.f ++ y).size ≤ 50; rw [ByteArray.size_append]; omega, Lib.hid ((HD2.out.putf _).mono (by omega))⟩
      · have h0 : ((k7 : Int) == 0) = false := by simp; omega
        by_cases e1 : k7 = 1
        · subst e1
          obtain ⟨x0, x1, x2⟩ := HD.out.box.cells
          have hw1 : IntKind.i64.wrap ((l2.f.size : Int) + 1) = (l2.f.size : Int) + 1 := IntWalk.i64_in _ (by omega)
          go_wp2_with fail
          refine (among_any B (m + 70) z _ [-1, (l2.f.size : Int) + 1] _ (HD.out.alloc (.cells #[.int .i64 (-1), .int .i64 ((l2.f.size : Int) + 1)] 3)).cur (by omega) (by simp) (by simp) (fun w' hg => row_fresh (xs := [Value.int .i64 (-1), .int .i64 ((l2.f.size : Int) + 1)]) (n := 2) rfl (by decide) HD.out.cur.lt hg)).mono ?_
          rintro e w8 ⟨y, _, rfl, hc, hg⟩
          have HD2 := Lib.hid ((HD.out.alloc (.cells #[.int .i64 (-1), .int .i64 ((l2.f.size : Int) + 1)] 3)).call hc hg)
          clear hc hg x0 x1 x2
          obtain ⟨x0, x1, x2⟩ := HD2.out.box.cells
          have fx := HD2.out.box.free 2
          go_wp2_with fail
          go_meet
          case rel => exact ⟨_, _, by show l2.q.length ≤ 30; omega, by show l2.f.size ≤ 50; omega, Lib.hid ((HD2.out.putu y).mono (by omega))⟩
        have h1 : ((k7 : Int) == 1) = false := by simp; omega
        by_cases e2 : k7 = 2
        · subst e2
          go_wp2_with fail
          go_loopg [] 20 (fun g wr => ∃ (v : Value) (L : Lk), L.q.length + g = 20 + l2.q.length ∧ L.q.length ≤ 10 ∧ L.f.size ≤ 10 ∧ Hid (DrK w wr B z (m + 72 + 4 * L.q.length) R Q v L))
          case atStart => exact ⟨_, l2, by omega, by omega, by omega, Lib.hid (HD.out.mono (by omega))⟩
          case round =>
            clear HD
            obtain ⟨v, L, hLg, hLq, hLf, HL⟩ := hrel
            obtain ⟨a7, c7, rfl, _, _⟩ := own_someS0 HL.out.own
            obtain ⟨x0, x1, x2⟩ := HL.out.box.cells
            go_upto_region 13 with fail
            have HDd := Lib.hid HL.out.drew
            have hxd := HDd.out.box.cells.1
            go_region_law (first
              | (go_simp; go_at_call 69; refine (pick_any B (m + 72 + 4 * L.q.length) 2 z _ HDd.out.cur (by omega) (by omega) (by omega)).mono ?_; rintro e w8 ⟨y, hy, rfl, hc, hg⟩; have HD2 := Lib.hid (HDd.out.call hc hg); have hx2 := HD2.out.box.cells.1; have hw2 : IntKind.i64.wrap (8 + (y : Int)) = 8 + (y : Int) := IntWalk.i64_in _ (by omega); clear hc hg; dsimp only))
            all_goals
              clear HL HDd hxd x0 x1 x2 hx2
              have HL := HD2
              obtain ⟨x0, x1, x2⟩ := HL.out.box.cells
              by_cases h7 : (L.q.length : Int) < 8 + (y : Int)
              · go_wp2_with (at_builtin; refine wpList_append_own_at _ rfl _ _ 24 rfl w.heap.size 9 i0 (.string ⟨#[]⟩) 1 16 Try.underlying24 hi hz0 hz1 hz2 rfl (by decide) _ L.q.length (L.q.map Value.string) rfl (HL.out.alloc (.cells #[.string ⟨#[113]⟩] 9)).own ⟨_, 0, none⟩ 1 1 [.string ⟨#[113]⟩] rfl rfl (cell_one_new _ _ _) (by intro q hq; simp at hq; subst hq; rfl) (by unfold maxLen; omega) (by omega) (HL.out.alloc (.cells #[.string ⟨#[113]⟩] 9)).gr.size ?_; intro v2 w6 hown2 hgrow2 hnil2 hat2; obtain ⟨a8, c8, rfl, _, _⟩ := own_someS0 hown2; obtain ⟨hbx, hd⟩ := HL.out.app hown2 hgrow2 hat2; have HD6 := Lib.hid hd; have hx6 := hbx.cells.1; have fx6 := hbx.free 0; clear hd hbx hown2 hgrow2 hnil2 hat2)
                go_wp2_with fail
                go_roundg (gk - 1)
                case rel => exact ⟨_, ⟨L.q ++ [⟨#[113]⟩], L.f, L.u⟩, by simp; omega, by simp; omega, hLf, Lib.hid (HD6.out.mono (by simp; omega))⟩
                case measure => omega
              · go_wp2_with fail
                go_meet
                case rel => exact ⟨_, L, by omega, by omega, Lib.hid (HL.out.mono (by omega))⟩
        have h2 : ((k7 : Int) == 2) = false := by simp; omega
        by_cases e3 : k7 = 3
        · subst e3
          obtain ⟨x0, x1, x2⟩ := HD.out.box.cells
          go_wp2_with fail
          refine (pick_any B (m + 70) 2 z _ HD.out.cur (by omega) (by omega) (by omega)).mono ?_
          rintro e w8 ⟨y, hy, rfl, hc, hg⟩
          have HD2 := Lib.hid (HD.out.call hc hg)
          have hw1 : IntKind.i64.wrap (40 + (y : Int)) = 40 + (y : Int) := IntWalk.i64_in _ (by omega)
          clear hc hg
          go_wp2_with fail
          refine (fatesZ_any B (m + 72) _ z _ HD2.out.cur (by omega) (by omega) (by omega)).mono ?_
          rintro e w9 ⟨s9, hs9, rfl, hc, hg⟩
          have HD3 := Lib.hid (HD2.out.call hc hg)
          clear hc hg x0 x1 x2
          obtain ⟨x0, x1, x2⟩ := HD3.out.box.cells
          have fx := HD3.out.box.free 1
          go_wp2_with fail
          go_meet
          case rel => exact ⟨_, _, by show l2.q.length ≤ 30; omega, hs9, Lib.hid ((HD3.out.putf s9).mono (by omega))⟩
        have h3 : ((k7 : Int) == 3) = false := by simp; omega
        by_cases e4 : k7 = 4
        · subst e4
          go_wp2_with fail
          go_loopg [] 20 (fun g wr => ∃ (v : Value) (L : Lk), L.q.length + g = 20 + l2.q.length ∧ L.q.length ≤ 10 ∧ L.f.size ≤ 10 ∧ Hid (DrK w wr B z (m + 70) R Q v L))
          case atStart => exact ⟨_, l2, by omega, by omega, by omega, HD⟩
          case round =>
            clear HD
            obtain ⟨v, L, hLg, hLq, hLf, HL⟩ := hrel
            obtain ⟨a7, c7, rfl, _, _⟩ := own_someS0 HL.out.own
            obtain ⟨x0, x1, x2⟩ := HL.out.box.cells
            by_cases h7 : L.q.length < 7
            · have h7' : (L.q.length : Int) < 7 := by omega
              go_wp2_with (at_builtin; refine wpList_append_own_at _ rfl _ _ 24 rfl w.heap.size 9 i0 (.string ⟨#[]⟩) 1 16 Try.underlying24 hi hz0 hz1 hz2 rfl (by decide) _ L.q.length (L.q.map Value.string) rfl (HL.out.alloc (.cells #[.string ⟨#[113]⟩] 9)).own ⟨_, 0, none⟩ 1 1 [.string ⟨#[113]⟩] rfl rfl (cell_one_new _ _ _) (by intro q hq; simp at hq; subst hq; rfl) (by unfold maxLen; omega) (by omega) (HL.out.alloc (.cells #[.string ⟨#[113]⟩] 9)).gr.size ?_; intro v2 w6 hown2 hgrow2 hnil2 hat2; obtain ⟨a8, c8, rfl, _, _⟩ := own_someS0 hown2; obtain ⟨hbx, hd⟩ := HL.out.app hown2 hgrow2 hat2; have HD6 := Lib.hid hd; have hx6 := hbx.cells.1; have fx6 := hbx.free 0; clear hd hbx hown2 hgrow2 hnil2 hat2)
              go_wp2_with fail
              go_roundg (gk - 1)
              case rel => exact ⟨_, ⟨L.q ++ [⟨#[113]⟩], L.f, L.u⟩, by simp; omega, by simp; omega, hLf, HD6⟩
              case measure => omega
            · have h7' : ¬ (L.q.length : Int) < 7 := by omega
              go_wp2_with fail
              go_meet
              case rel => exact ⟨_, L, by omega, by omega, Lib.hid (HL.out.mono (by omega))⟩
        have h4 : ((k7 : Int) == 4) = false := by simp; omega
        go_wp2_with fail
        go_meet
        case rel => exact ⟨_, _, by omega, by omega, Lib.hid (HD.out.mono (by omega))⟩
    case rest =>
      obtain ⟨v, L, hLq, hLf, HL⟩ := hcut
      rename World => W9
      clear HD
      obtain ⟨a7, c7, rfl, _, _⟩ := own_someS0 HL.out.own
      obtain ⟨x0, x1, x2⟩ := HL.out.box.cells
      obtain ⟨y0, y1, y2⟩ := HL.out.res.cells
      have f0 := HL.out.res.free 0
      have f1 := HL.out.res.free 1
      have f2 := HL.out.res.free 2
      go_wp2_with fail
      obtain ⟨p1, q1⟩ := HL.out.res.store (v' := .slice a7 L.q.length c7) (f' := L.f) (u' := L.u)
      refine bodyPost_ret (results_lk0 rfl _ _ Q rfl p1) rfl ⟨_, L, rfl, HL.out.own.kept q1 ?_, hLf, hLq, (HL.out.cur.grown' q1 (fun k hk => by have e2 : Q = k := Option.some.inj hk; have := HL.out.hQ; have := HL.out.hB; omega)).mono (by omega), g_fresh7 HL.out.gr q1 HL.out.hQ⟩
      cases hv : (Value.slice a7 L.q.length c7).ownBlock with
      | none => exact .inl rfl
      | some k => exact .inr (some_ne7 (HL.out.nv k hv).2)
end Go.Proofs.Ytbhhmaialilabaa
