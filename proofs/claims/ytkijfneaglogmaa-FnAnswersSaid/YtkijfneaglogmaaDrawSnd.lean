/-
  The draws of chapter 9: a window, a serial in or near it.
-/
import Derived.Test.YtkijfneaglogmaaDrB
import Derived.Test.YtkijfneaglogmaaDrawPkt
import Derived.Test.YtkijfneaglogmaaSnd
import Derived.Deep.RegionLaw
import Derived.Deep.CutBlock
import Derived.Deep.LoopGhost
import Derived.BigQuiet
namespace Go.Proofs.Ytkijfneaglogmaa
open Go.RowKit Go.Lib Go.Joins
set_option linter.unusedVariables false

/-- A window that is being drawn. -/
def DrS (w0 w : World) (B : Nat) (z : List Int) (m R Q : Nat) (v : Value) (l : Sw) : Prop :=
  DrB w0 w B z m R Q #[.int .i64 l.t, .int .i64 l.z, v] #[.int .i64 0, .int .i64 0, .slice none 0 0] 26 9 1 v l.q.length (l.q.map Value.string)
theorem DrS.call {w0 w w' : World} {B m m' R Q : Nat} {z : List Int} {v : Value} {l : Sw} (h : DrS w0 w B z m R Q v l) (hc : Cu w' B z m') (hg : w.grownBy w' (some B)) : DrS w0 w' B z m' R Q v l := DrB.call h hc hg
theorem DrS.mono {w0 w : World} {B m m' R Q : Nat} {z : List Int} {v : Value} {l : Sw} (h : DrS w0 w B z m R Q v l) (hm : m ≤ m') : DrS w0 w B z m' R Q v l := DrB.mono h hm
theorem DrS.drew {w0 w : World} {B m R Q : Nat} {z : List Int} {v : Value} {l : Sw} (h : DrS w0 w B z m R Q v l) : DrS w0 w.drew B z m R Q v l := DrB.drew h
theorem DrS.alloc {w0 w : World} {B m R Q : Nat} {z : List Int} {v : Value} {l : Sw} (h : DrS w0 w B z m R Q v l) (o : Obj) : DrS w0 (w.alloc o) B z m R Q v l := DrB.alloc h o
theorem DrS.putt {w0 w : World} {B m R Q : Nat} {z : List Int} {v : Value} {l : Sw} (h : DrS w0 w B z m R Q v l) (x : Int) : DrS w0 (w.setCell ⟨R, 0, none⟩ (.int .i64 x)) B z m R Q v ⟨x, l.z, l.q⟩ := DrB.put h 0 (.int .i64 x)
theorem DrS.putz {w0 w : World} {B m R Q : Nat} {z : List Int} {v : Value} {l : Sw} (h : DrS w0 w B z m R Q v l) (x : Int) : DrS w0 (w.setCell ⟨R, 1, none⟩ (.int .i64 x)) B z m R Q v ⟨l.t, x, l.q⟩ := DrB.put h 1 (.int .i64 x)
theorem DrS.app {w0 w w1 : World} {B m R Q : Nat} {z : List Int} {v v' : Value} {l : Sw} {x : ByteArray} (h : DrS w0 w B z m R Q v l)
    (ho : w1.ownsRow w0.heap.size 9 1 v' (l.q.length + 1) (l.q.map Value.string ++ [.string x])) (hg : (w.alloc (.cells #[.string x] 9)).grownBy w1 v.ownBlock)
    (hat : v'.ownBlock = v.ownBlock ∨ v'.ownBlock = some (w.alloc (.cells #[.string x] 9)).heap.size) :
    Bx w1 R #[.int .i64 l.t, .int .i64 l.z, v] 26 ∧ DrS w0 (w1.setCell ⟨R, 2, none⟩ v') B z m R Q v' ⟨l.t, l.z, l.q ++ [x]⟩ := by
  obtain ⟨h1, h2⟩ := DrB.app h 2 ho hg hat
  refine ⟨h1, ?_⟩
  unfold DrS
  rw [show (l.q ++ [x]).length = l.q.length + 1 by simp, List.map_append]
  exact h2
theorem DrS.cells {w0 w : World} {B m R Q : Nat} {z : List Int} {v : Value} {l : Sw} (h : DrS w0 w B z m R Q v l) : w.cell? ⟨R, 0, none⟩ = some (.int .i64 l.t) ∧ w.cell? ⟨R, 1, none⟩ = some (.int .i64 l.z) ∧ w.cell? ⟨R, 2, none⟩ = some v :=
  ⟨h.box.at 0 rfl, h.box.at 1 rfl, h.box.at 2 rfl⟩
def badW : List ByteArray := [⟨#[65]⟩, ⟨#[97, 98, 99, 100, 101, 102, 103, 104]⟩, ⟨#[97, 98, 99, 100, 101, 102, 103, 104, 105]⟩, ⟨#[]⟩]
theorem badW_size : ∀ x ∈ badW, x.size ≤ 9 := by
  intro x hx
  simp only [badW, List.mem_cons, List.not_mem_nil, or_false] at hx
  rcases hx with rfl | rfl | rfl | rfl <;> decide
def badZ : List Int := [0, 7, 6]
theorem badZ_bd : ∀ x ∈ badZ, 0 ≤ x ∧ x ≤ 7 := by
  intro x hx
  simp only [badZ, List.mem_cons, List.not_mem_nil, or_false] at hx
  omega
theorem all_snoc {P : ByteArray → Prop} {q : List ByteArray} {x : ByteArray} (h : ∀ s ∈ q, P s) (hx : P x) : ∀ s ∈ q ++ [x], P s := by
  intro s hs
  rcases List.mem_append.1 hs with hs | hs
  · exact h s hs
  · rw [List.mem_singleton.1 hs]; exact hx
set_option maxRecDepth 100000 in
set_option maxHeartbeats 8000000 in
theorem sendWindow_any (B m : Nat) (z : List Int) (w : World) (h : Cu w B z m) (hm : m ≤ 500000) :
    Calls Try.prog 55 #[.pointer (some ⟨B, 0, none⟩)] w fun e w' => ∃ (v : Value) (l : Sw), e = .returned (.agg #[.int .i64 l.t, .int .i64 l.z, v]) ∧ w'.ownsRow w.heap.size 9 1 v l.q.length (l.q.map Value.string) ∧ (l.q.length ≤ 7 ∧ (∀ s ∈ l.q, s.size ≤ 9)) ∧ Cu w' B z (m + 200) ∧ w.grownBy w' (some B) := by
  obtain ⟨i0, hi, hz0, hz1, hz2⟩ := info_parts infoStr
  have HH := Lib.hid h
  have hBl := h.lt
  clear h
  go_enter Try.func55, Try.ntmps55
  go_wp2_with fail
  refine (serial_any B m z _ (HH.out.grown (World.grownBy_alloc _ _ none)) (by omega)).mono ?_
  rintro e w1 ⟨t, ht0, ht1, rfl, hc, hg⟩
  have HC1 := Lib.hid hc
  have HG1 := Lib.hid hg
  clear hc hg
  go_wp2_with fail
  refine (pick_any B (m + 4) 6 z _ HC1.out (by omega) (by omega) (by omega)).mono ?_
  rintro e w2 ⟨b, hb, rfl, hc, hg⟩
  have HG2 := Lib.hid (g_trans HG1.out hg)
  have HS : Hid (DrS w (w2.alloc (.cells #[.int .i64 t, .int .i64 (1 + (b : Int)), .slice none 0 0] 26)) B z (m + 4 + 2) w2.heap.size w.heap.size (.slice none 0 0) ⟨t, 1 + (b : Int), []⟩) := Lib.hid (DrB.start hBl hc HG2.out)
  clear hc hg HC1 HG1 HH HG2
  have hw1 : IntKind.i64.wrap (1 + (b : Int)) = 1 + (b : Int) := IntWalk.i64_in _ (by omega)
  have hw2 : IntKind.i64.wrap (1 + (b : Int) + 1) = 1 + (b : Int) + 1 := IntWalk.i64_in _ (by omega)
  go_upto_region 2 with fail
  obtain ⟨W3, hW3⟩ : ∃ W3, W3 = w2.alloc (.cells #[.int .i64 t, .int .i64 (1 + (b : Int)), .slice none 0 0] 26) := ⟨_, rfl⟩
  rw [← hW3] at HS ⊢
  obtain ⟨R, hR⟩ : ∃ R, R = w2.heap.size := ⟨_, rfl⟩
  obtain ⟨Q, hQ⟩ : ∃ Q, Q = w.heap.size := ⟨_, rfl⟩
  rw [← hR, ← hQ] at HS ⊢
  clear hW3 hR hQ
  obtain ⟨x0, x1, x2⟩ := HS.out.cells
  dsimp only at x0 x1 x2
  go_wp2_with fail
  refine (pickZ_any B (m + 4 + 2) _ z _ HS.out.cur (by omega) (by omega) (by omega)).mono ?_
  rintro e w3 ⟨n2, hn2, rfl, hc, hg⟩
  have HS2 := Lib.hid ((HS.out.call hc hg).mono (show m + 4 + 2 + 2 ≤ m + 10 by omega))
  have hn6 : n2 ≤ 6 := by omega
  clear hc hg HS hn2 hw1 hw2 x0 x1 x2
  go_upto_block 0 with fail
  go_cut [4] from 16 to 26 (fun _ wr => ∃ (v : Value) (l : Sw), l.q.length ≤ 6 ∧ Hid (∀ s ∈ l.q, s.size ≤ 9) ∧ Hid (DrS w wr B z (m + 110) R Q v l))
  case first =>
    go_wp2_with fail
    go_loopw [4] (fun q wr => ∃ (k : Nat) (v : Value) (l : Sw), l.q.length + k ≤ 6 ∧ q = .int .i64 k ∧ Hid (∀ s ∈ l.q, s.size ≤ 9) ∧ Hid (DrS w wr B z (m + 10 + 14 * l.q.length) R Q v l)) (fun q _ => (RowKit.intOf q).toNat)
    case atStart => exact ⟨n2, _, ⟨t, 1 + (b : Int), []⟩, by simp; omega, rfl, Lib.hid (by simp), HS2⟩
    case round =>
      clear HS2
      obtain ⟨k, v, l, hk, rfl, HZ, HD⟩ := hrel
      by_cases hkp : 0 < k
      · have hdc : decide ((0 : Int) < (k : Int)) = true := decide_eq_true (by omega)
        obtain ⟨a6, c6, rfl, _, _⟩ := own_someS0 HD.out.own
        obtain ⟨x0, x1, x2⟩ := HD.out.cells
        go_upto_region 5 with fail
        have HDd := Lib.hid HD.out.drew
        have hxd := HDd.out.cells.2.2
        have tokA : True := trivial
        go_region_law (first
          | (go_simp; go_at_call 93; refine (letters_any B (m + 10 + 14 * l.q.length) 4 z _ HDd.out.cur (by omega) (by omega)).mono ?_; rintro e w5 ⟨y, hy, hyl, rfl, hc, hg⟩; have HD2 := Lib.hid (HDd.out.call hc hg); have hx2 := HD2.out.cells.2.2; have hx3 := (HD2.out.alloc (.cells #[.string y] 9)).cells.2.2; clear hc hg hyl; dsimp only)
          | (have _t := tokA; refine step_append_row (by rfl) _ _ _ (by rfl) w.heap.size 9 i0 (.string ⟨#[]⟩) 16 Try.underlying24 hi hz0 hz1 hz2 rfl _ l.q.length (l.q.map Value.string) (by rfl) (HD2.out.alloc (.cells #[.string y] 9)).own _ 1 1 [.string y] (by rfl) (row_lit (heap_alloc_new _ _)) rfl (by intro q hq; simp at hq; subst hq; rfl) (by unfold maxLen; omega) (by omega) (HD2.out.alloc (.cells #[.string y] 9)).gr.size ?_; intro v2 w6 hown2 hgrow2 hat2; obtain ⟨a7, c7, rfl, _, _⟩ := own_someS0 hown2; obtain ⟨hbx, hd⟩ := HD2.out.app hown2 hgrow2 hat2; have HD6 := Lib.hid hd; have hx6 := hbx.at 2 (v := .slice a6 l.q.length c6) rfl; have fx6 := hbx.free 2; clear hd hbx hown2 hgrow2 hat2 tokA _t))
        all_goals go_wp2_with fail
        all_goals
          go_roundw
          case rel => exact ⟨k - 1, _, ⟨l.t, l.z, l.q ++ [y]⟩, by simp; omega, by congr 1; omega, Lib.hid (all_snoc HZ.out (by omega)), Lib.hid (HD6.out.mono (by simp; omega))⟩
          case measure => (first | (simp [RowKit.intOf]; done) | (simp [RowKit.intOf]; omega))
      · obtain rfl : k = 0 := by omega
        go_wp2_with fail
        go_meet
        case rel => exact ⟨v, l, by omega, HZ, Lib.hid (HD.out.mono (by omega))⟩
  case rest =>
    obtain ⟨v, l, hlq, HZ, HD⟩ := hcut
    rename World => W4
    clear HS2
    obtain ⟨a6, c6, rfl, _, _⟩ := own_someS0 HD.out.own
    go_wp2_with fail
    refine (pick_any B (m + 110) 24 z _ HD.out.cur (by omega) (by omega) (by omega)).mono ?_
    rintro e w7 ⟨k7, hk7, rfl, hc, hg⟩
    have HD7 := Lib.hid (HD.out.call hc hg)
    clear hc hg HD
    go_upto_block 2 with fail
    go_cut [] from 29 to 49 (fun wr => ∃ (v : Value) (l : Sw), l.q.length ≤ 7 ∧ Hid (∀ s ∈ l.q, s.size ≤ 9) ∧ Hid (DrS w wr B z (m + 150) R Q v l))
    case first =>
      by_cases e0 : k7 = 0
      · subst e0
        go_wp2_with fail
        refine (anySerial_any B (m + 110 + 2) z _ HD7.out.cur (by omega)).mono ?_
        rintro e w8 ⟨y, hy0, hy1, rfl, hc, hg⟩
        have HD2 := Lib.hid (HD7.out.call hc hg)
        clear hc hg
        obtain ⟨x0, x1, x2⟩ := HD2.out.cells
        have fx := HD2.out.box.free 0
        go_wp2_with fail
        go_meet
        case rel => exact ⟨_, ⟨y, l.z, l.q⟩, by show l.q.length ≤ 7; omega, HZ, Lib.hid ((HD2.out.putt y).mono (by omega))⟩
      have h0 : ((k7 : Int) == 0) = false := by simp; omega
      by_cases e1 : k7 = 1
      · subst e1
        go_wp2_with fail
        refine (among_any B (m + 110 + 2) z _ badZ _ (HD7.out.alloc (.cells (badZ.map (Value.int .i64)).toArray 3)).cur (by omega) (by decide) (by decide) (fun w' hg => row_fresh (xs := badZ.map (Value.int .i64)) (n := badZ.length) (List.length_map _).symm (by decide) HD7.out.cur.lt hg)).mono ?_
        rintro e w8 ⟨y, _, rfl, hc, hg⟩
        have HD2 := Lib.hid ((HD7.out.alloc (.cells (badZ.map (Value.int .i64)).toArray 3)).call hc hg)
        clear hc hg
        obtain ⟨x0, x1, x2⟩ := HD2.out.cells
        have fx := HD2.out.box.free 1
        go_wp2_with fail
        go_meet
        case rel => exact ⟨_, ⟨l.t, y, l.q⟩, by show l.q.length ≤ 7; omega, HZ, Lib.hid ((HD2.out.putz y).mono (by omega))⟩
      have h1 : ((k7 : Int) == 1) = false := by simp; omega
      by_cases e2 : k7 = 2
      · subst e2
        obtain ⟨x0, x1, x2⟩ := HD7.out.cells
        go_upto_region 12 with fail
        have HDd := Lib.hid HD7.out.drew
        have hxd := HDd.out.cells.2.2
        have hxb : (w7.alloc (.cells #[.string ⟨#[65]⟩, .string ⟨#[97, 98, 99, 100, 101, 102, 103, 104]⟩, .string ⟨#[97, 98, 99, 100, 101, 102, 103, 104, 105]⟩, .string ⟨#[]⟩] 9)).cell? ⟨R, 2, none⟩ = some (.slice a6 l.q.length c6) := (HD7.out.alloc _).cells.2.2
        have tokA : True := trivial
        go_region_law (first
          | (go_simp; go_at_call 56; refine (of_any B (m + 110 + 2) z _ badW _ (by first | exact (HDd.out.alloc (.cells (badW.map Value.string).toArray 9)).cur | exact (HD7.out.alloc (.cells (badW.map Value.string).toArray 9)).drew.cur) (by omega) (by decide) (by decide) (fun w' hg => by first | exact row_fresh (xs := badW.map Value.string) (n := badW.length) (List.length_map _).symm (by decide) HD7.out.cur.lt hg | exact row_fresh (xs := badW.map Value.string) (n := badW.length) (List.length_map _).symm (by decide) HD7.out.cur.lt (g_trans (gdrewB _ _) hg))).mono ?_; rintro e w8 ⟨y, hy, rfl, hc, hg⟩; have hys := badW_size y hy; have HD2 := Lib.hid (DrS.call (by first | exact (HDd.out.alloc (.cells (badW.map Value.string).toArray 9)) | exact (HD7.out.alloc (.cells (badW.map Value.string).toArray 9)).drew) hc hg); have hx2 := HD2.out.cells.2.2; have hx3 := (HD2.out.alloc (.cells #[.string y] 9)).cells.2.2; clear hy hc hg; dsimp only)
          | (have _t := tokA; refine step_append_row (by rfl) _ _ _ (by rfl) w.heap.size 9 i0 (.string ⟨#[]⟩) 16 Try.underlying24 hi hz0 hz1 hz2 rfl _ l.q.length (l.q.map Value.string) (by rfl) (HD2.out.alloc (.cells #[.string y] 9)).own _ 1 1 [.string y] (by rfl) (row_lit (heap_alloc_new _ _)) rfl (by intro q hq; simp at hq; subst hq; rfl) (by unfold maxLen; omega) (by omega) (HD2.out.alloc (.cells #[.string y] 9)).gr.size ?_; intro v2 w9 hown2 hgrow2 hat2; obtain ⟨a7, c7, rfl, _, _⟩ := own_someS0 hown2; obtain ⟨hbx, hd⟩ := HD2.out.app hown2 hgrow2 hat2; have HD6 := Lib.hid hd; have hx6 := hbx.at 2 (v := .slice a6 l.q.length c6) rfl; have fx6 := hbx.free 2; clear hd hbx hown2 hgrow2 hat2 tokA _t))
        all_goals go_wp2_with fail
        all_goals
          go_meet
          case rel => exact ⟨_, ⟨l.t, l.z, l.q ++ [y]⟩, by simp; omega, Lib.hid (all_snoc HZ.out hys), Lib.hid (HD6.out.mono (by omega))⟩
      have h2 : ((k7 : Int) == 2) = false := by simp; omega
      go_wp2_with fail
      go_meet
      case rel => exact ⟨_, l, by omega, HZ, Lib.hid (HD7.out.mono (by omega))⟩
    case rest =>
      obtain ⟨v, L, hLq, HZL, HL⟩ := hcut
      rename World => W9
      clear HD7
      obtain ⟨a7, c7, rfl, _, _⟩ := own_someS0 HL.out.own
      obtain ⟨x0, x1, x2⟩ := HL.out.cells
      have y0 := HL.out.res.at 0 (v := .int .i64 0) rfl
      have y1 := HL.out.res.at 1 (v := .int .i64 0) rfl
      have y2 := HL.out.res.at 2 (v := .slice none 0 0) rfl
      have f0 := HL.out.res.free 0
      have f1 := HL.out.res.free 1
      have f2 := HL.out.res.free 2
      go_wp2_with fail
      obtain ⟨p1, q1⟩ := HL.out.res.store3 (.int .i64 L.t) (.int .i64 L.z) (.slice a7 L.q.length c7)
      refine bodyPost_ret (results_bx rfl isSw _ _ Q rfl rfl p1) rfl ⟨_, L, rfl, HL.out.own.kept q1 ?_, ⟨hLq, HZL.out⟩, (HL.out.cur.grown' q1 (fun k hk => by have e2 : Q = k := Option.some.inj hk; have := HL.out.hQ; have := HL.out.hB; omega)).mono (by omega), g_fresh HL.out.gr q1 HL.out.hQ⟩
      cases hv : (Value.slice a7 L.q.length c7).ownBlock with
      | none => exact .inl rfl
      | some k => exact .inr (some_neB (HL.out.nv k hv).2)
end Go.Proofs.Ytkijfneaglogmaa
