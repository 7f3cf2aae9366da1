/-
  The draws of chapter 10: a receive window.
-/
import Derived.Test.YtpmjdppipalfcaaDrB
import Derived.Test.YtpmjdppipalfcaaDrawLet
import Derived.Test.YtpmjdppipalfcaaRcv4
import Derived.Deep.RegionLaw
import Derived.Deep.CutBlock
import Derived.Deep.LoopGhost
import Derived.BigQuiet
namespace Go.Proofs.Ytpmjdppipalfcaa
open Go.RowKit Go.Lib Go.Joins
set_option linter.unusedVariables false

/-- A window that is being drawn. -/
def DrR (w0 w : World) (B : Nat) (z : List Int) (m R Q : Nat) (v : Value) (l : Rw) : Prop :=
  DrB w0 w B z m R Q #[.int .i64 l.x, v] #[.int .i64 0, .slice none 0 0] 26 66 2 v l.q.length (slF l.q)
section
variable {w0 w w' w1 : World} {B m m' R Q : Nat} {z : List Int} {v v' : Value} {l : Rw}
theorem DrR.call (h : DrR w0 w B z m R Q v l) (hc : Cu w' B z m') (hg : w.grownBy w' (some B)) : DrR w0 w' B z m' R Q v l := DrB.call h hc hg
theorem DrR.mono (h : DrR w0 w B z m R Q v l) (hm : m ≤ m') : DrR w0 w B z m' R Q v l := DrB.mono h hm
theorem DrR.drew (h : DrR w0 w B z m R Q v l) : DrR w0 w.drew B z m R Q v l := DrB.drew h
theorem DrR.alloc (h : DrR w0 w B z m R Q v l) (o : Obj) : DrR w0 (w.alloc o) B z m R Q v l := DrB.alloc h o
theorem DrR.putx (h : DrR w0 w B z m R Q v l) (x : Int) : DrR w0 (w.setCell ⟨R, 0, none⟩ (.int .i64 x)) B z m R Q v ⟨x, l.q⟩ := DrB.put h 0 (.int .i64 x)
theorem DrR.cells (h : DrR w0 w B z m R Q v l) : w.cell? ⟨R, 0, none⟩ = some (.int .i64 l.x) ∧ w.cell? ⟨R, 1, none⟩ = some v := ⟨h.box.at 0 rfl, h.box.at 1 rfl⟩
theorem DrR.app {o : Obj} {t : Sl} (h : DrR w0 w B z m R Q v l) (ho : w1.ownsRow w0.heap.size 66 2 v' (l.q.length + 1) (slF l.q ++ slC t)) (hg : (w.alloc o).grownBy w1 v.ownBlock)
    (hat : v'.ownBlock = v.ownBlock ∨ v'.ownBlock = some (w.alloc o).heap.size) :
    Bx w1 R #[.int .i64 l.x, v] 26 ∧ DrR w0 (w1.setCell ⟨R, 1, none⟩ v') B z m R Q v' ⟨l.x, l.q ++ [t]⟩ := by
  obtain ⟨h1, h2⟩ := DrB.app h 1 ho hg hat
  refine ⟨h1, ?_⟩
  unfold DrR
  rw [show (l.q ++ [t]).length = l.q.length + 1 by simp, slF_snoc]
  exact h2
/-- A store into another block. -/
theorem DrR.side {X : Nat} (h : DrR w0 w B z m R Q v l) (hg : w.grownBy w' (some X)) (hX : w0.heap.size ≤ X) (hR : X ≠ R) (hQ : X ≠ Q) (hv : ∀ k, v.ownBlock = some k → k ≠ X) : DrR w0 w' B z m R Q v l := by
  have hB := h.hB
  refine ⟨h.cur.grown' hg (fun k hk => by have e2 : X = k := Option.some.inj hk; omega), h.box.grown hg (some_neB (Ne.symm hR)), h.res.grown hg (some_neB (Ne.symm hQ)), h.own.kept hg ?_, g_fresh h.gr hg hX, hB, h.hR, h.hQ, h.ne, h.nv⟩
  cases e : v.ownBlock with
  | none => exact .inl rfl
  | some k => exact .inr (some_neB (hv k e))
/-- The whole row is new. -/
theorem DrR.fresh {X n : Nat} {xs : List Sl} (h : DrR w0 w B z m R Q v l) (hl : Below w.heap.size w w') (ho : w'.ownsRow w.heap.size 66 2 v' n (slF xs)) (hn : n = xs.length) :
    Bx w' R #[.int .i64 l.x, v] 26 ∧ DrR w0 (w'.setCell ⟨R, 1, none⟩ v') B z m R Q v' ⟨l.x, xs⟩ := by
  have hb := h.box.below hl h.box.lt
  have hq := h.res.below hl h.res.lt
  have hB := h.hB
  have hsz := h.gr.size
  obtain ⟨p1, q1⟩ := hb.set 1 v'
  have hnv : ∀ k, v'.ownBlock = some k → k ≠ R ∧ k ≠ Q := fun k hk => by
    have h1 := (ho.lt k hk).1
    have h2 := h.box.lt
    have h3 := h.res.lt
    exact ⟨by omega, by omega⟩
  have hc := cu_below h.cur hl
  have hg : w0.grownBy w' (some B) := g_trans h.gr (grown_anyB ⟨hl.os, hl.tape, hl.output, hl.size, fun k hk _ => hl.block k hk⟩)
  subst hn
  refine ⟨hb, hc.grown' q1 (fun k hk => by have e2 : R = k := Option.some.inj hk; have := h.hR; omega), p1, hq.grown q1 (some_neB (Ne.symm h.ne)), ?_, g_fresh hg q1 h.hR, hB, h.hR, h.hQ, h.ne, hnv⟩
  refine (ownz_base ho hsz).kept q1 ?_
  cases e : v'.ownBlock with
  | none => exact .inl rfl
  | some k => exact .inr (some_neB (hnv k e).1)
theorem DrR.start {W : World} {x : Int} (hB : B < w.heap.size) (hc : Cu W B z m) (hg : (w.alloc (.cells #[.int .i64 0, .slice none 0 0] 26)).grownBy W (some B)) :
    DrR w (W.alloc (.cells #[.int .i64 x, .slice none 0 0] 26)) B z m W.heap.size w.heap.size (.slice none 0 0) ⟨x, []⟩ := by
  have hq := (Bx.new w #[.int .i64 0, .slice none 0 0] 26).grown hg (some_neB (by omega))
  have hs := hq.lt
  refine ⟨hc.grown (World.grownBy_alloc _ _ none), Bx.new _ _ _, hq.alloc _, ⟨rfl, .inl ⟨rfl, rfl⟩⟩, g_trans (g_trans (World.grownBy_alloc _ _ _) hg) (World.grownBy_alloc _ _ _), hB, by omega, Nat.le_refl _, by omega, fun k hk => by cases hk⟩
end
theorem all_snocR {P : Sl → Prop} {q : List Sl} {x : Sl} (h : ∀ s ∈ q, P s) (hx : P x) : ∀ s ∈ q ++ [x], P s := by
  intro s hs
  rcases List.mem_append.1 hs with hs | hs
  · exact h s hs
  · rw [List.mem_singleton.1 hs]; exact hx
def badR : List ByteArray := [⟨#[97]⟩, ⟨#[65]⟩, ⟨#[]⟩]
theorem badR_size : ∀ x ∈ badR, x.size ≤ 9 := by
  intro x hx
  simp only [badR, List.mem_cons, List.not_mem_nil, or_false] at hx
  rcases hx with rfl | rfl | rfl <;> decide
set_option maxRecDepth 100000 in
set_option maxHeartbeats 16000000 in
theorem receiveWindow_any (B m : Nat) (z : List Int) (w : World) (h : Cu w B z m) (hm : m ≤ 500000) :
    Calls Try.prog 71 #[.pointer (some ⟨B, 0, none⟩)] w fun e w' => ∃ (v : Value) (l : Rw), e = .returned (.agg #[.int .i64 l.x, v]) ∧ w'.ownsRow w.heap.size 66 2 v l.q.length (slF l.q) ∧ (l.q.length ≤ 9 ∧ (∀ s ∈ l.q, s.s.size ≤ 9)) ∧ Cu w' B z (m + 400) ∧ w.grownBy w' (some B) := by
  obtain ⟨i0, hi, hz0, hz1, hz2⟩ := info_parts infoSl
  have HH := Lib.hid h
  have hBl := h.lt
  clear h
  go_enter Try.func71, Try.ntmps71
  go_wp2_with fail
  refine (serial_any B m z _ (HH.out.grown (World.grownBy_alloc _ _ none)) (by omega)).mono ?_
  rintro e w1 ⟨t, ht0, ht1, rfl, hc, hg⟩
  have HS : Hid (DrR w (w1.alloc (.cells #[.int .i64 t, .slice none 0 0] 26)) B z (m + 4) w1.heap.size w.heap.size (.slice none 0 0) ⟨t, []⟩) := Lib.hid (DrR.start hBl hc hg)
  clear hc hg HH
  go_upto_region 2 with fail
  obtain ⟨W3, hW3⟩ : ∃ W3, W3 = w1.alloc (.cells #[.int .i64 t, .slice none 0 0] 26) := ⟨_, rfl⟩
  rw [← hW3] at HS ⊢
  obtain ⟨R, hR⟩ : ∃ R, R = w1.heap.size := ⟨_, rfl⟩
  obtain ⟨Q, hQ⟩ : ∃ Q, Q = w.heap.size := ⟨_, rfl⟩
  rw [← hR, ← hQ] at HS ⊢
  clear hW3 hR hQ
  go_wp2_with fail
  refine (pick_any B (m + 4) 8 z _ HS.out.cur (by omega) (by omega) (by omega)).mono ?_
  rintro e w3 ⟨n, hn8, rfl, hc, hg⟩
  have HS2 := Lib.hid (HS.out.call hc hg)
  clear hc hg HS
  have hw0 : IntKind.i64.wrap ((n : Int) - 1) = (n : Int) - 1 := IntWalk.i64_in _ (by omega)
  by_cases hn1 : n ≤ 1
  · have hn1' : ¬ (1 : Int) < (n : Int) := by omega
    obtain ⟨v, l, hlq, HZ, HD⟩ : ∃ (v : Value) (l : Rw), l.q.length ≤ 7 ∧ Hid (∀ s ∈ l.q, s.s.size ≤ 9) ∧ Hid (DrR w w3 B z (m + 200) R Q v l) := ⟨_, ⟨t, []⟩, by simp, Lib.hid (by simp), Lib.hid (HS2.out.mono (by omega))⟩
    clear HS2
    obtain ⟨a6, c6, rfl, _, _⟩ := ownz_slice HD.out.own
    go_wp2_with fail
    refine (pick_any B (m + 200) 24 z _ HD.out.cur (by omega) (by omega) (by omega)).mono ?_
    rintro e w7 ⟨k7, hk7, rfl, hc, hg⟩
    have HD7 := Lib.hid (HD.out.call hc hg)
    clear hc hg HD
    go_upto_block 2 with fail
    go_cut [] from 43 to 89 (fun wr => ∃ (v : Value) (l : Rw), l.q.length ≤ 9 ∧ Hid (∀ s ∈ l.q, s.s.size ≤ 9) ∧ Hid (DrR w wr B z (m + 300) R Q v l))
    case first =>
      by_cases e0 : k7 = 0
      · subst e0
        go_wp2_with fail
        refine (anySerial_any B (m + 200 + 2) z _ HD7.out.cur (by omega)).mono ?_
        rintro e w8 ⟨y, hy0, hy1, rfl, hc, hg⟩
        have HD2 := Lib.hid (HD7.out.call hc hg)
        clear hc hg
        obtain ⟨x0, x1⟩ := HD2.out.cells
        have fx := HD2.out.box.free 0
        go_wp2_with fail
        go_meet
        case rel => exact ⟨_, ⟨y, l.q⟩, by show l.q.length ≤ 9; omega, HZ, Lib.hid ((HD2.out.putx y).mono (by omega))⟩
      have h0 : ((k7 : Int) == 0) = false := by simp; omega
      by_cases e1 : k7 = 1
      · subst e1
        obtain ⟨x0, x1⟩ := HD7.out.cells
        go_wp2_with (at_builtin; refine wpList_append_own_at _ rfl _ _ 24 rfl w.heap.size 66 i0 (.agg #[.bool false, .string ⟨#[]⟩]) 2 24 Try.underlying24 hi hz0 hz1 hz2 rfl (by decide) _ l.q.length (slF l.q) rfl (HD7.out.alloc _).own ⟨w7.heap.size, 0, none⟩ 1 1 (slC sl0) rfl rfl (row_news (row_litSl (t := sl0) (Bx.new w7 _ _))) (slC_one _) (by unfold maxLen; omega) (by omega) (by have := HD7.out.gr.size; simp; omega) ?_; intro v3 w9 hown3 hgrow3 hnil3 hat3; obtain ⟨a3, c3, rfl, _, _⟩ := ownz_slice hown3; obtain ⟨hbx, hd⟩ := HD7.out.app hown3 hgrow3 hat3; have HD9 := Lib.hid hd; have z0 := hbx.at 0 (v := .int .i64 l.x) rfl; have z1 := hbx.at 1 (v := .slice a6 l.q.length c6) rfl; have fz0 := hbx.free 0; have fz1 := hbx.free 1; clear hnil3 hown3 hgrow3 hat3 hbx hd)
        go_meet
        case rel => exact ⟨_, ⟨l.x, l.q ++ [sl0]⟩, by simp; omega, Lib.hid (all_snocR HZ.out (by decide)), Lib.hid (by have h9 := HD9.out.mono (show _ ≤ m + 300 by omega); exact h9)⟩
      have h1 : ((k7 : Int) == 1) = false := by simp; omega
      by_cases e2 : k7 = 2
      · subst e2
        go_upto_region 17 with fail
        have HDd := Lib.hid HD7.out.drew
        have HDl := Lib.hid (HD7.out.alloc (.cells (badR.map Value.string).toArray 9))
        obtain ⟨xd0, xd1⟩ := HDd.out.cells
        have xl1 : (w7.alloc (.cells #[.string ⟨#[97]⟩, .string ⟨#[65]⟩, .string ⟨#[]⟩] 9)).cell? ⟨R, 1, none⟩ = some (.slice a6 l.q.length c6) := HDl.out.cells.2
        have xn1 : (w7.alloc (.cells #[.string ⟨#[97]⟩, .string ⟨#[65]⟩, .string ⟨#[]⟩] 9)).drew.cell? ⟨R, 1, none⟩ = some (.slice a6 l.q.length c6) := HDl.out.drew.cells.2
        have xm1 : (w7.drew.alloc (.cells #[.string ⟨#[97]⟩, .string ⟨#[65]⟩, .string ⟨#[]⟩] 9)).cell? ⟨R, 1, none⟩ = some (.slice a6 l.q.length c6) := (HDd.out.alloc _).cells.2
        have tokA : True := trivial
        have tokB : True := trivial
        have tokC : True := trivial
        go_region_law (first
          | (have _t := tokA; go_simp; go_at_call 83; refine (one_any B (m + 202) 2 z _ (by first | exact HDd.out.cur | exact HDl.out.drew.cur | exact (HDd.out.alloc _).cur) (by omega) (by omega) (by omega)).mono ?_; rintro e w8 ⟨b, rfl, hc, hg⟩; have HD2 := Lib.hid (DrR.call (by first | exact HDd.out | exact HDl.out.drew | exact (HDd.out.alloc _)) hc hg); have HG2 := Lib.hid hg; obtain ⟨xe0, xe1⟩ := HD2.out.cells; have xh1 : (w8.alloc (.cells #[.string ⟨#[97]⟩, .string ⟨#[65]⟩, .string ⟨#[]⟩] 9)).cell? ⟨R, 1, none⟩ = some (.slice a6 l.q.length c6) := (HD2.out.alloc _).cells.2; clear hc hg tokA _t; dsimp only)
          | (have _t := tokB; go_simp; go_at_call 86; refine (of_any B (m + 204) z _ badR _ (by first | exact (HD2.out.alloc (.cells (badR.map Value.string).toArray 9)).cur | exact HD2.out.cur) (by omega) (by decide) (by decide) (fun w' hg => by first | exact row_fresh (xs := badR.map Value.string) (n := badR.length) (List.length_map _).symm (by decide) HD2.out.cur.lt hg | exact row_fresh (xs := badR.map Value.string) (n := badR.length) (List.length_map _).symm (by decide) HD7.out.cur.lt (g_trans (g_trans (gdrewB _ _) HG2.out) hg) | exact row_fresh (xs := badR.map Value.string) (n := badR.length) (List.length_map _).symm (by decide) HDd.out.cur.lt (g_trans HG2.out hg))).mono ?_; rintro e w9 ⟨y, hy, rfl, hc, hg⟩; have hys := badR_size y hy; have HD3 := Lib.hid (DrR.call (by first | exact (HD2.out.alloc (.cells (badR.map Value.string).toArray 9)) | exact HD2.out) hc hg); obtain ⟨xf0, xf1⟩ := HD3.out.cells; obtain ⟨xg0, xg1⟩ := (HD3.out.alloc (.cells #[.bool b, .string y] 66)).cells; clear hy hc hg tokB _t; dsimp only)
          | (have _t := tokC; refine step_append_rowz (by rfl) _ _ 24 (by rfl) w.heap.size 66 i0 (.agg #[.bool false, .string ⟨#[]⟩]) 2 24 Try.underlying24 hi hz0 hz1 hz2 rfl (by decide) _ l.q.length (slF l.q) (by rfl) (HD3.out.alloc (.cells #[.bool b, .string y] 66)).own ⟨w9.heap.size, 0, none⟩ 1 1 (slC ⟨b, y⟩) (by rfl) (row_litSl (t := ⟨b, y⟩) (Bx.new w9 _ _)) rfl (slC_one _) (by unfold maxLen; omega) (by omega) (by have := (HD3.out.alloc (.cells #[.bool b, .string y] 66)).gr.size; exact this) ?_; intro v3 w10 hown3 hgrow3 hat3; obtain ⟨a3, c3, rfl, _, _⟩ := ownz_slice hown3; obtain ⟨hbx, hd⟩ := HD3.out.app hown3 hgrow3 hat3; have HD9 := Lib.hid hd; have z0 := hbx.at 0 (v := .int .i64 l.x) rfl; have z1 := hbx.at 1 (v := .slice a6 l.q.length c6) rfl; have fz0 := hbx.free 0; have fz1 := hbx.free 1; clear hown3 hgrow3 hat3 hbx hd tokC _t))
        all_goals go_wp2_with fail
        all_goals
          go_meet
          case rel => exact ⟨_, ⟨l.x, l.q ++ [⟨b, y⟩]⟩, by simp; omega, Lib.hid (all_snocR HZ.out hys), Lib.hid (by have h9 := HD9.out.mono (show _ ≤ m + 300 by omega); exact h9)⟩
      have h2 : ((k7 : Int) == 2) = false := by simp; omega
      by_cases e3 : k7 = 3
      · subst e3
        obtain ⟨x0, x1⟩ := HD7.out.cells
        have xa0 := (HD7.out.alloc (.cells #[.bool false, .string ⟨#[]⟩] 66)).cells.1
        have xa1 := (HD7.out.alloc (.cells #[.bool false, .string ⟨#[]⟩] 66)).cells.2
        go_wp2_with (at_builtin; refine wpList_append_fit _ rfl _ _ 24 rfl w7.heap.size 66 i0 (.agg #[.bool false, .string ⟨#[]⟩]) 2 24 Try.underlying24 hi hz0 hz1 hz2 rfl (by decide) _ 1 (slC sl0) rfl (ownz_made w7 (slC sl0) 66 1 rfl (by decide)) _ l.q.length (slF l.q) rfl (fit_own HD7.out.own) (slF_len l.q) ((rowz_own HD7.out.own).below ((Below.refl _ _).alloc (Nat.le_refl _) _) (Nat.le_refl _)) (slF_one l.q) (by unfold maxLen; omega) (by omega) (by simp) ?_; intro v3 w9 hown3 hgrow3; obtain ⟨a3, c3, rfl, _, _⟩ := ownz_slice hown3; obtain ⟨hbx, hd⟩ := HD7.out.fresh (X := 0) (xs := sl0 :: l.q) (((Below.refl _ _).alloc (Nat.le_refl _) _).grown hgrow3 (by simp) (fun k hk => by have e9 : w7.heap.size = k := Option.some.inj hk; omega)) hown3 (by simp; omega); have HD9 := Lib.hid hd; have z0 := hbx.at 0 (v := .int .i64 l.x) rfl; have z1 := hbx.at 1 (v := .slice a6 l.q.length c6) rfl; have fz0 := hbx.free 0; have fz1 := hbx.free 1; clear hown3 hgrow3 hbx hd)
        go_loopw [] (fun wr => ∃ (v : Value) (l : Rw), l.q.length ≤ 9 ∧ Hid (∀ s ∈ l.q, s.s.size ≤ 9) ∧ Hid (DrR w wr B z (m + 204 + 2 * l.q.length) R Q v l)) (fun wr => 10 - sLen ((wr.cell? ⟨R, 1, none⟩).getD undef))
        case atStart => exact ⟨_, ⟨l.x, sl0 :: l.q⟩, by simp; omega, Lib.hid (fun s hs => by rcases List.mem_cons.1 hs with h | h; (rw [h]; decide); exact HZ.out s h), Lib.hid (by have h9 := HD9.out.mono (show m + 200 + 2 ≤ m + 204 + 2 * (sl0 :: l.q).length by omega); exact h9)⟩
        case round =>
          clear HD9 HD7 HZ
          obtain ⟨v, l, hlq2, HZ, HD⟩ := hrel
          obtain ⟨a7, c7, rfl, _, _⟩ := ownz_slice HD.out.own
          have hT0 : sLen ((wr.cell? ⟨R, 1, none⟩).getD undef) = l.q.length := by rw [HD.out.cells.2]; rfl
          have HT0 := Lib.hid hT0
          clear hT0
          go_upto_region 20 with fail
          have HDd := Lib.hid HD.out.drew
          obtain ⟨xd0, xd1⟩ := HDd.out.cells
          go_region_law (go_simp; go_at_call 82; refine (pick_any B (m + 204 + 2 * l.q.length) 2 z _ HDd.out.cur (by omega) (by omega) (by omega)).mono ?_; rintro e w8 ⟨b, hb2, rfl, hc, hg⟩; have HD8 := Lib.hid (HDd.out.call hc hg); have y0 := HD8.out.cells.1; have y1 := HD8.out.cells.2; have hw8 : IntKind.i64.wrap (8 + (b : Int)) = 8 + (b : Int) := IntWalk.i64_in _ (by omega); clear hc hg; dsimp only)
          all_goals
            by_cases hlt : l.q.length < 8 + b
            · have hlt2 : (l.q.length : Int) < 8 + (b : Int) := by omega
              go_wp2_with (at_builtin; refine wpList_append_own_at _ rfl _ _ 24 rfl w.heap.size 66 i0 (.agg #[.bool false, .string ⟨#[]⟩]) 2 24 Try.underlying24 hi hz0 hz1 hz2 rfl (by decide) _ l.q.length (slF l.q) rfl (HD8.out.alloc _).own ⟨w8.heap.size, 0, none⟩ 1 1 (slC (⟨true, ⟨#[122]⟩⟩ : Sl)) rfl rfl (row_news (row_litSl (t := (⟨true, ⟨#[122]⟩⟩ : Sl)) (Bx.new w8 _ _))) (slC_one _) (by unfold maxLen; omega) (by omega) (by have := HD8.out.gr.size; simp; omega) ?_; intro v3 w9 hown3 hgrow3 hnil3 hat3; obtain ⟨a3, c3, rfl, _, _⟩ := ownz_slice hown3; obtain ⟨hbx, hd⟩ := HD8.out.app hown3 hgrow3 hat3; have HD9 := Lib.hid hd; have z0 := hbx.at 0 (v := .int .i64 l.x) rfl; have z1 := hbx.at 1 (v := .slice a7 l.q.length c7) rfl; have fz0 := hbx.free 0; have fz1 := hbx.free 1; clear hnil3 hown3 hgrow3 hat3 hbx hd)
              go_roundw
              case rel => exact ⟨_, ⟨l.x, l.q ++ [⟨true, ⟨#[122]⟩⟩]⟩, by simp; omega, Lib.hid (all_snocR HZ.out (by decide)), Lib.hid (by have h9 := HD9.out.mono (show _ ≤ m + 204 + 2 * (l.q ++ [(⟨true, ⟨#[122]⟩⟩ : Sl)]).length by simp; omega); exact h9)⟩
              case measure =>
                rw [HT0.out, HD9.out.cells.2]
                simp [sLen]; omega
            · have hlt2 : 8 + (b : Int) ≤ (l.q.length : Int) := by omega
              go_wp2_with fail
              go_meet
              case rel => exact ⟨_, l, by omega, HZ, Lib.hid (HD8.out.mono (by omega))⟩
      have h3 : ((k7 : Int) == 3) = false := by simp; omega
      go_wp2_with fail
      go_meet
      case rel => exact ⟨_, l, by omega, HZ, Lib.hid (HD7.out.mono (by omega))⟩
    case rest =>
      obtain ⟨v, L, hLq, HZL, HL⟩ := hcut
      rename World => W9
      clear HD7
      obtain ⟨a7, c7, rfl, _, _⟩ := ownz_slice HL.out.own
      obtain ⟨x0, x1⟩ := HL.out.cells
      have y0 := HL.out.res.at 0 (v := .int .i64 0) rfl
      have y1 := HL.out.res.at 1 (v := .slice none 0 0) rfl
      have f0 := HL.out.res.free 0
      have f1 := HL.out.res.free 1
      go_wp2_with fail
      obtain ⟨p1, q1⟩ := HL.out.res.store2 (.int .i64 L.x) (.slice a7 L.q.length c7)
      refine bodyPost_ret (results_bx rfl isRw _ _ Q rfl rfl p1) rfl ⟨_, L, rfl, HL.out.own.kept q1 ?_, ⟨hLq, HZL.out⟩, (HL.out.cur.grown' q1 (fun k hk => by have e2 : Q = k := Option.some.inj hk; have := HL.out.hQ; have := HL.out.hB; omega)).mono (by omega), g_fresh HL.out.gr q1 HL.out.hQ⟩
      cases hv : (Value.slice a7 L.q.length c7).ownBlock with
      | none => exact .inl rfl
      | some k => exact .inr (some_neB (HL.out.nv k hv).2)
  have hn1' : (1 : Int) < (n : Int) := by omega
  go_upto_block 0 with fail
  go_cut [] from 14 to 40 (fun wr => ∃ (v : Value) (l : Rw), l.q.length ≤ 7 ∧ Hid (∀ s ∈ l.q, s.s.size ≤ 9) ∧ Hid (DrR w wr B z (m + 200) R Q v l))
  case first =>
    go_wp2_with fail
    go_loopw [5] (fun i wr => ∃ (k : Nat) (v : Value) (l : Rw), k ≤ n ∧ l.q.length = k ∧ i = .int .i64 k ∧ Hid (∀ s ∈ l.q, s.s.size ≤ 9) ∧ Hid (DrR w wr B z (m + 6 + 20 * k) R Q v l)) (fun i _ => n - (RowKit.intOf i).toNat)
    case atStart => exact ⟨0, _, ⟨t, []⟩, Nat.zero_le _, rfl, rfl, Lib.hid (by simp), HS2⟩
    case round =>
      clear HS2
      obtain ⟨k, v, l, hk, hlk, rfl, HZ, HD⟩ := hrel
      obtain ⟨a6, c6, rfl, _, _⟩ := ownz_slice HD.out.own
      have hl7 : l.q.length ≤ 7 := by omega
      have HLK := Lib.hid hlk
      clear hlk
      by_cases hkn : k < n
      · have hkn2 : (k : Int) < (n : Int) := by omega
        go_upto_region 8 with fail
        have HX0 : Hid (Bx (wr.alloc (.cells #[.bool false, .string ⟨#[]⟩] 66)) wr.heap.size #[.bool false, .string ⟨#[]⟩] 66) := Lib.hid (Bx.new _ _ _)
        have HD1 := Lib.hid (HD.out.alloc (.cells #[.bool false, .string ⟨#[]⟩] 66))
        have hXR : wr.heap.size ≠ R := by have := HD.out.box.lt; omega
        have hXQ : wr.heap.size ≠ Q := by have := HD.out.res.lt; omega
        have hXB : wr.heap.size ≠ B := by have := HD.out.cur.lt; omega
        have hXv : ∀ k9, (Value.slice a6 l.q.length c6).ownBlock = some k9 → k9 ≠ wr.heap.size := fun k9 h9 => by have := (HD.out.own.lt k9 h9).2; omega
        have hX0 : w.heap.size ≤ wr.heap.size := HD.out.gr.size
        obtain ⟨X, hX⟩ : ∃ X, X = wr.heap.size := ⟨_, rfl⟩
        obtain ⟨W5, hW5⟩ : ∃ W5, W5 = wr.alloc (.cells #[.bool false, .string ⟨#[]⟩] 66) := ⟨_, rfl⟩
        rw [← hX] at HX0 hXR hXQ hXB hXv hX0 ⊢
        rw [← hW5] at HX0 HD1 ⊢
        clear hX hW5 HD
        have HXR := Lib.hid hXR
        have HXQ := Lib.hid hXQ
        have HXB := Lib.hid hXB
        have HXv := Lib.hid hXv
        have HX := Lib.hid hX0
        clear hXR hXQ hXB hXv hX0
        by_cases hk0 : k = 0
        · have hf : (k : Int) ≤ 0 := by omega
          clear hk0
          have xe0 := HX0.out.at 0 (v := .bool false) rfl
          have xe1 := HX0.out.at 1 (v := .string ⟨#[]⟩) rfl
          obtain ⟨ye0, ye1⟩ := HD1.out.cells
          go_wp2_with (at_builtin; refine wpList_append_own_at _ rfl _ _ 24 rfl w.heap.size 66 i0 (.agg #[.bool false, .string ⟨#[]⟩]) 2 24 Try.underlying24 hi hz0 hz1 hz2 rfl (by decide) _ l.q.length (slF l.q) rfl (HD1.out.alloc _).own ⟨W5.heap.size, 0, none⟩ 1 1 (slC sl0) rfl rfl (row_news (row_litSl (t := sl0) (Bx.new W5 _ _))) (slC_one _) (by unfold maxLen; omega) (by omega) (by have := HD1.out.gr.size; simp; omega) ?_; intro v3 w9 hown3 hgrow3 hnil3 hat3; obtain ⟨a3, c3, rfl, _, _⟩ := ownz_slice hown3; obtain ⟨hbx, hd⟩ := HD1.out.app hown3 hgrow3 hat3; have HD9 := Lib.hid hd; have z0 := hbx.at 0 (v := .int .i64 l.x) rfl; have z1 := hbx.at 1 (v := .slice a6 l.q.length c6) rfl; have fz0 := hbx.free 0; have fz1 := hbx.free 1; clear hnil3 hown3 hgrow3 hat3 hbx hd)
          go_roundw
          case rel => exact ⟨k + 1, _, ⟨l.x, l.q ++ [sl0]⟩, by omega, by rw [List.length_append, HLK.out]; rfl, by go_num, Lib.hid (all_snocR HZ.out (by first | decide | exact Nat.le_trans hy (by decide))), Lib.hid (by have h9 := HD9.out.mono (show _ ≤ m + 6 + 20 * (k + 1) by omega); exact h9)⟩
          case measure => (simp [RowKit.intOf]; omega)
        have hk0' : (0 : Int) < (k : Int) := by omega
        by_cases hl1 : k + 1 = n
        · have hq1 : ((k : Int) == (n : Int) - 1) = true := by rw [beq_iff_eq]; omega
          go_wp2_with fail
          refine (letters_any B (m + 6 + 20 * k) 4 z _ HD1.out.cur (by omega) (by omega)).mono ?_
          rintro e w6 ⟨y, hy, _, rfl, hc, hg⟩
          have HX6 := Lib.hid (HX0.out.grown hg (some_neB HXB.out))
          have HD6 := Lib.hid (HD1.out.call hc hg)
          clear hc hg
          have x0 := HX6.out.at 0 (v := .bool false) rfl
          have x1 := HX6.out.at 1 (v := .string ⟨#[]⟩) rfl
          have f0 := HX6.out.free 0
          have f1 := HX6.out.free 1
          go_upto_region 10 with fail
          obtain ⟨p1, q1⟩ := HX6.out.store2 (.bool true) (.string y)
          obtain ⟨WS, hWS⟩ : ∃ W8, W8 = (w6.setCell ⟨X, 0, none⟩ (.bool true)).setCell ⟨X, 1, none⟩ (.string y) := ⟨_, rfl⟩
          rw [← hWS] at p1 q1 ⊢
          clear hWS
          have HXS := Lib.hid p1
          have HDS := Lib.hid (HD6.out.side q1 HX.out HXR.out HXQ.out HXv.out)
          clear p1 q1 x0 x1 f0 f1
          have xe0 := HXS.out.at 0 (v := .bool true) rfl
          have xe1 := HXS.out.at 1 (v := .string y) rfl
          obtain ⟨ye0, ye1⟩ := HDS.out.cells
          go_wp2_with (at_builtin; refine wpList_append_own_at _ rfl _ _ 24 rfl w.heap.size 66 i0 (.agg #[.bool false, .string ⟨#[]⟩]) 2 24 Try.underlying24 hi hz0 hz1 hz2 rfl (by decide) _ l.q.length (slF l.q) rfl (HDS.out.alloc _).own ⟨WS.heap.size, 0, none⟩ 1 1 (slC (⟨true, y⟩ : Sl)) rfl rfl (row_news (row_litSl (t := (⟨true, y⟩ : Sl)) (Bx.new WS _ _))) (slC_one _) (by unfold maxLen; omega) (by omega) (by have := HDS.out.gr.size; simp; omega) ?_; intro v3 w9 hown3 hgrow3 hnil3 hat3; obtain ⟨a3, c3, rfl, _, _⟩ := ownz_slice hown3; obtain ⟨hbx, hd⟩ := HDS.out.app hown3 hgrow3 hat3; have HD9 := Lib.hid hd; have z0 := hbx.at 0 (v := .int .i64 l.x) rfl; have z1 := hbx.at 1 (v := .slice a6 l.q.length c6) rfl; have fz0 := hbx.free 0; have fz1 := hbx.free 1; clear hnil3 hown3 hgrow3 hat3 hbx hd)
          go_roundw
          case rel => exact ⟨k + 1, _, ⟨l.x, l.q ++ [(⟨true, y⟩ : Sl)]⟩, by omega, by rw [List.length_append, HLK.out]; rfl, by go_num, Lib.hid (all_snocR HZ.out (by first | decide | exact Nat.le_trans hy (by decide))), Lib.hid (by have h9 := HD9.out.mono (show _ ≤ m + 6 + 20 * (k + 1) by omega); exact h9)⟩
          case measure => (simp [RowKit.intOf]; omega)
        have hq1 : ((k : Int) == (n : Int) - 1) = false := by rw [beq_eq_false_iff_ne]; omega
        go_wp2_with fail
        refine (one_any B (m + 6 + 20 * k) 2 z _ HD1.out.cur (by omega) (by omega) (by omega)).mono ?_
        rintro e w6 ⟨b, rfl, hc, hg⟩
        have HX6 := Lib.hid (HX0.out.grown hg (some_neB HXB.out))
        have HD6 := Lib.hid (HD1.out.call hc hg)
        clear hc hg
        cases b with
        | false =>
          have xe0 := HX6.out.at 0 (v := .bool false) rfl
          have xe1 := HX6.out.at 1 (v := .string ⟨#[]⟩) rfl
          obtain ⟨ye0, ye1⟩ := HD6.out.cells
          go_wp2_with (at_builtin; refine wpList_append_own_at _ rfl _ _ 24 rfl w.heap.size 66 i0 (.agg #[.bool false, .string ⟨#[]⟩]) 2 24 Try.underlying24 hi hz0 hz1 hz2 rfl (by decide) _ l.q.length (slF l.q) rfl (HD6.out.alloc _).own ⟨w6.heap.size, 0, none⟩ 1 1 (slC sl0) rfl rfl (row_news (row_litSl (t := sl0) (Bx.new w6 _ _))) (slC_one _) (by unfold maxLen; omega) (by omega) (by have := HD6.out.gr.size; simp; omega) ?_; intro v3 w9 hown3 hgrow3 hnil3 hat3; obtain ⟨a3, c3, rfl, _, _⟩ := ownz_slice hown3; obtain ⟨hbx, hd⟩ := HD6.out.app hown3 hgrow3 hat3; have HD9 := Lib.hid hd; have z0 := hbx.at 0 (v := .int .i64 l.x) rfl; have z1 := hbx.at 1 (v := .slice a6 l.q.length c6) rfl; have fz0 := hbx.free 0; have fz1 := hbx.free 1; clear hnil3 hown3 hgrow3 hat3 hbx hd)
          go_roundw
          case rel => exact ⟨k + 1, _, ⟨l.x, l.q ++ [sl0]⟩, by omega, by rw [List.length_append, HLK.out]; rfl, by go_num, Lib.hid (all_snocR HZ.out (by first | decide | exact Nat.le_trans hy (by decide))), Lib.hid (by have h9 := HD9.out.mono (show _ ≤ m + 6 + 20 * (k + 1) by omega); exact h9)⟩
          case measure => (simp [RowKit.intOf]; omega)
        | true =>
          go_wp2_with fail
          refine (letters_any B (m + 6 + 20 * k + 2) 4 z _ HD6.out.cur (by omega) (by omega)).mono ?_
          rintro e w7 ⟨y, hy, _, rfl, hc, hg⟩
          have HX7 := Lib.hid (HX6.out.grown hg (some_neB HXB.out))
          have HD7 := Lib.hid (HD6.out.call hc hg)
          clear hc hg
          have x0 := HX7.out.at 0 (v := .bool false) rfl
          have x1 := HX7.out.at 1 (v := .string ⟨#[]⟩) rfl
          have f0 := HX7.out.free 0
          have f1 := HX7.out.free 1
          go_upto_region 10 with fail
          obtain ⟨p1, q1⟩ := HX7.out.store2 (.bool true) (.string y)
          obtain ⟨WS, hWS⟩ : ∃ W8, W8 = (w7.setCell ⟨X, 0, none⟩ (.bool true)).setCell ⟨X, 1, none⟩ (.string y) := ⟨_, rfl⟩
          rw [← hWS] at p1 q1 ⊢
          clear hWS
          have HXS := Lib.hid p1
          have HDS := Lib.hid (HD7.out.side q1 HX.out HXR.out HXQ.out HXv.out)
          clear p1 q1 x0 x1 f0 f1
          have xe0 := HXS.out.at 0 (v := .bool true) rfl
          have xe1 := HXS.out.at 1 (v := .string y) rfl
          obtain ⟨ye0, ye1⟩ := HDS.out.cells
          go_wp2_with (at_builtin; refine wpList_append_own_at _ rfl _ _ 24 rfl w.heap.size 66 i0 (.agg #[.bool false, .string ⟨#[]⟩]) 2 24 Try.underlying24 hi hz0 hz1 hz2 rfl (by decide) _ l.q.length (slF l.q) rfl (HDS.out.alloc _).own ⟨WS.heap.size, 0, none⟩ 1 1 (slC (⟨true, y⟩ : Sl)) rfl rfl (row_news (row_litSl (t := (⟨true, y⟩ : Sl)) (Bx.new WS _ _))) (slC_one _) (by unfold maxLen; omega) (by omega) (by have := HDS.out.gr.size; simp; omega) ?_; intro v3 w9 hown3 hgrow3 hnil3 hat3; obtain ⟨a3, c3, rfl, _, _⟩ := ownz_slice hown3; obtain ⟨hbx, hd⟩ := HDS.out.app hown3 hgrow3 hat3; have HD9 := Lib.hid hd; have z0 := hbx.at 0 (v := .int .i64 l.x) rfl; have z1 := hbx.at 1 (v := .slice a6 l.q.length c6) rfl; have fz0 := hbx.free 0; have fz1 := hbx.free 1; clear hnil3 hown3 hgrow3 hat3 hbx hd)
          go_roundw
          case rel => exact ⟨k + 1, _, ⟨l.x, l.q ++ [(⟨true, y⟩ : Sl)]⟩, by omega, by rw [List.length_append, HLK.out]; rfl, by go_num, Lib.hid (all_snocR HZ.out (by first | decide | exact Nat.le_trans hy (by decide))), Lib.hid (by have h9 := HD9.out.mono (show _ ≤ m + 6 + 20 * (k + 1) by omega); exact h9)⟩
          case measure => (simp [RowKit.intOf]; omega)
      · obtain rfl : k = n := by omega
        go_wp2_with fail
        go_meet
        case rel => exact ⟨_, l, by omega, HZ, Lib.hid (HD.out.mono (by omega))⟩
  case rest =>
    obtain ⟨v, l, hlq, HZ, HD⟩ := hcut
    rename World => W4
    clear HS2 hw0
    obtain ⟨a6, c6, rfl, _, _⟩ := ownz_slice HD.out.own
    go_wp2_with fail
    refine (pick_any B (m + 200) 24 z _ HD.out.cur (by omega) (by omega) (by omega)).mono ?_
    rintro e w7 ⟨k7, hk7, rfl, hc, hg⟩
    have HD7 := Lib.hid (HD.out.call hc hg)
    clear hc hg HD
    go_upto_block 2 with fail
    go_cut [] from 43 to 89 (fun wr => ∃ (v : Value) (l : Rw), l.q.length ≤ 9 ∧ Hid (∀ s ∈ l.q, s.s.size ≤ 9) ∧ Hid (DrR w wr B z (m + 300) R Q v l))
    case first =>
      by_cases e0 : k7 = 0
      · subst e0
        go_wp2_with fail
        refine (anySerial_any B (m + 200 + 2) z _ HD7.out.cur (by omega)).mono ?_
        rintro e w8 ⟨y, hy0, hy1, rfl, hc, hg⟩
        have HD2 := Lib.hid (HD7.out.call hc hg)
        clear hc hg
        obtain ⟨x0, x1⟩ := HD2.out.cells
        have fx := HD2.out.box.free 0
        go_wp2_with fail
        go_meet
        case rel => exact ⟨_, ⟨y, l.q⟩, by show l.q.length ≤ 9; omega, HZ, Lib.hid ((HD2.out.putx y).mono (by omega))⟩
      have h0 : ((k7 : Int) == 0) = false := by simp; omega
      by_cases e1 : k7 = 1
      · subst e1
        obtain ⟨x0, x1⟩ := HD7.out.cells
        go_wp2_with (at_builtin; refine wpList_append_own_at _ rfl _ _ 24 rfl w.heap.size 66 i0 (.agg #[.bool false, .string ⟨#[]⟩]) 2 24 Try.underlying24 hi hz0 hz1 hz2 rfl (by decide) _ l.q.length (slF l.q) rfl (HD7.out.alloc _).own ⟨w7.heap.size, 0, none⟩ 1 1 (slC sl0) rfl rfl (row_news (row_litSl (t := sl0) (Bx.new w7 _ _))) (slC_one _) (by unfold maxLen; omega) (by omega) (by have := HD7.out.gr.size; simp; omega) ?_; intro v3 w9 hown3 hgrow3 hnil3 hat3; obtain ⟨a3, c3, rfl, _, _⟩ := ownz_slice hown3; obtain ⟨hbx, hd⟩ := HD7.out.app hown3 hgrow3 hat3; have HD9 := Lib.hid hd; have z0 := hbx.at 0 (v := .int .i64 l.x) rfl; have z1 := hbx.at 1 (v := .slice a6 l.q.length c6) rfl; have fz0 := hbx.free 0; have fz1 := hbx.free 1; clear hnil3 hown3 hgrow3 hat3 hbx hd)
        go_meet
        case rel => exact ⟨_, ⟨l.x, l.q ++ [sl0]⟩, by simp; omega, Lib.hid (all_snocR HZ.out (by decide)), Lib.hid (by have h9 := HD9.out.mono (show _ ≤ m + 300 by omega); exact h9)⟩
      have h1 : ((k7 : Int) == 1) = false := by simp; omega
      by_cases e2 : k7 = 2
      · subst e2
        go_upto_region 17 with fail
        have HDd := Lib.hid HD7.out.drew
        have HDl := Lib.hid (HD7.out.alloc (.cells (badR.map Value.string).toArray 9))
        obtain ⟨xd0, xd1⟩ := HDd.out.cells
        have xl1 : (w7.alloc (.cells #[.string ⟨#[97]⟩, .string ⟨#[65]⟩, .string ⟨#[]⟩] 9)).cell? ⟨R, 1, none⟩ = some (.slice a6 l.q.length c6) := HDl.out.cells.2
        have xn1 : (w7.alloc (.cells #[.string ⟨#[97]⟩, .string ⟨#[65]⟩, .string ⟨#[]⟩] 9)).drew.cell? ⟨R, 1, none⟩ = some (.slice a6 l.q.length c6) := HDl.out.drew.cells.2
        have xm1 : (w7.drew.alloc (.cells #[.string ⟨#[97]⟩, .string ⟨#[65]⟩, .string ⟨#[]⟩] 9)).cell? ⟨R, 1, none⟩ = some (.slice a6 l.q.length c6) := (HDd.out.alloc _).cells.2
        have tokA : True := trivial
        have tokB : True := trivial
        have tokC : True := trivial
        go_region_law (first
          | (have _t := tokA; go_simp; go_at_call 83; refine (one_any B (m + 202) 2 z _ (by first | exact HDd.out.cur | exact HDl.out.drew.cur | exact (HDd.out.alloc _).cur) (by omega) (by omega) (by omega)).mono ?_; rintro e w8 ⟨b, rfl, hc, hg⟩; have HD2 := Lib.hid (DrR.call (by first | exact HDd.out | exact HDl.out.drew | exact (HDd.out.alloc _)) hc hg); have HG2 := Lib.hid hg; obtain ⟨xe0, xe1⟩ := HD2.out.cells; have xh1 : (w8.alloc (.cells #[.string ⟨#[97]⟩, .string ⟨#[65]⟩, .string ⟨#[]⟩] 9)).cell? ⟨R, 1, none⟩ = some (.slice a6 l.q.length c6) := (HD2.out.alloc _).cells.2; clear hc hg tokA _t; dsimp only)
          | (have _t := tokB; go_simp; go_at_call 86; refine (of_any B (m + 204) z _ badR _ (by first | exact (HD2.out.alloc (.cells (badR.map Value.string).toArray 9)).cur | exact HD2.out.cur) (by omega) (by decide) (by decide) (fun w' hg => by first | exact row_fresh (xs := badR.map Value.string) (n := badR.length) (List.length_map _).symm (by decide) HD2.out.cur.lt hg | exact row_fresh (xs := badR.map Value.string) (n := badR.length) (List.length_map _).symm (by decide) HD7.out.cur.lt (g_trans (g_trans (gdrewB _ _) HG2.out) hg) | exact row_fresh (xs := badR.map Value.string) (n := badR.length) (List.length_map _).symm (by decide) HDd.out.cur.lt (g_trans HG2.out hg))).mono ?_; rintro e w9 ⟨y, hy, rfl, hc, hg⟩; have hys := badR_size y hy; have HD3 := Lib.hid (DrR.call (by first | exact (HD2.out.alloc (.cells (badR.map Value.string).toArray 9)) | exact HD2.out) hc hg); obtain ⟨xf0, xf1⟩ := HD3.out.cells; obtain ⟨xg0, xg1⟩ := (HD3.out.alloc (.cells #[.bool b, .string y] 66)).cells; clear hy hc hg tokB _t; dsimp only)
          | (have _t := tokC; refine step_append_rowz (by rfl) _ _ 24 (by rfl) w.heap.size 66 i0 (.agg #[.bool false, .string ⟨#[]⟩]) 2 24 Try.underlying24 hi hz0 hz1 hz2 rfl (by decide) _ l.q.length (slF l.q) (by rfl) (HD3.out.alloc (.cells #[.bool b, .string y] 66)).own ⟨w9.heap.size, 0, none⟩ 1 1 (slC ⟨b, y⟩) (by rfl) (row_litSl (t := ⟨b, y⟩) (Bx.new w9 _ _)) rfl (slC_one _) (by unfold maxLen; omega) (by omega) (by have := (HD3.out.alloc (.cells #[.bool b, .string y] 66)).gr.size; exact this) ?_; intro v3 w10 hown3 hgrow3 hat3; obtain ⟨a3, c3, rfl, _, _⟩ := ownz_slice hown3; obtain ⟨hbx, hd⟩ := HD3.out.app hown3 hgrow3 hat3; have HD9 := Lib.hid hd; have z0 := hbx.at 0 (v := .int .i64 l.x) rfl; have z1 := hbx.at 1 (v := .slice a6 l.q.length c6) rfl; have fz0 := hbx.free 0; have fz1 := hbx.free 1; clear hown3 hgrow3 hat3 hbx hd tokC _t))
        all_goals go_wp2_with fail
        all_goals
          go_meet
          case rel => exact ⟨_, ⟨l.x, l.q ++ [⟨b, y⟩]⟩, by simp; omega, Lib.hid (all_snocR HZ.out hys), Lib.hid (by have h9 := HD9.out.mono (show _ ≤ m + 300 by omega); exact h9)⟩
      have h2 : ((k7 : Int) == 2) = false := by simp; omega
      by_cases e3 : k7 = 3
      · subst e3
        obtain ⟨x0, x1⟩ := HD7.out.cells
        have xa0 := (HD7.out.alloc (.cells #[.bool false, .string ⟨#[]⟩] 66)).cells.1
        have xa1 := (HD7.out.alloc (.cells #[.bool false, .string ⟨#[]⟩] 66)).cells.2
        go_wp2_with (at_builtin; refine wpList_append_fit _ rfl _ _ 24 rfl w7.heap.size 66 i0 (.agg #[.bool false, .string ⟨#[]⟩]) 2 24 Try.underlying24 hi hz0 hz1 hz2 rfl (by decide) _ 1 (slC sl0) rfl (ownz_made w7 (slC sl0) 66 1 rfl (by decide)) _ l.q.length (slF l.q) rfl (fit_own HD7.out.own) (slF_len l.q) ((rowz_own HD7.out.own).below ((Below.refl _ _).alloc (Nat.le_refl _) _) (Nat.le_refl _)) (slF_one l.q) (by unfold maxLen; omega) (by omega) (by simp) ?_; intro v3 w9 hown3 hgrow3; obtain ⟨a3, c3, rfl, _, _⟩ := ownz_slice hown3; obtain ⟨hbx, hd⟩ := HD7.out.fresh (X := 0) (xs := sl0 :: l.q) (((Below.refl _ _).alloc (Nat.le_refl _) _).grown hgrow3 (by simp) (fun k hk => by have e9 : w7.heap.size = k := Option.some.inj hk; omega)) hown3 (by simp; omega); have HD9 := Lib.hid hd; have z0 := hbx.at 0 (v := .int .i64 l.x) rfl; have z1 := hbx.at 1 (v := .slice a6 l.q.length c6) rfl; have fz0 := hbx.free 0; have fz1 := hbx.free 1; clear hown3 hgrow3 hbx hd)
        go_loopw [] (fun wr => ∃ (v : Value) (l : Rw), l.q.length ≤ 9 ∧ Hid (∀ s ∈ l.q, s.s.size ≤ 9) ∧ Hid (DrR w wr B z (m + 204 + 2 * l.q.length) R Q v l)) (fun wr => 10 - sLen ((wr.cell? ⟨R, 1, none⟩).getD undef))
        case atStart => exact ⟨_, ⟨l.x, sl0 :: l.q⟩, by simp; omega, Lib.hid (fun s hs => by rcases List.mem_cons.1 hs with h | h; (rw [h]; decide); exact HZ.out s h), Lib.hid (by have h9 := HD9.out.mono (show m + 200 + 2 ≤ m + 204 + 2 * (sl0 :: l.q).length by omega); exact h9)⟩
        case round =>
          clear HD9 HD7 HZ
          obtain ⟨v, l, hlq2, HZ, HD⟩ := hrel
          obtain ⟨a7, c7, rfl, _, _⟩ := ownz_slice HD.out.own
          have hT0 : sLen ((wr.cell? ⟨R, 1, none⟩).getD undef) = l.q.length := by rw [HD.out.cells.2]; rfl
          have HT0 := Lib.hid hT0
          clear hT0
          go_upto_region 20 with fail
          have HDd := Lib.hid HD.out.drew
          obtain ⟨xd0, xd1⟩ := HDd.out.cells
          go_region_law (go_simp; go_at_call 82; refine (pick_any B (m + 204 + 2 * l.q.length) 2 z _ HDd.out.cur (by omega) (by omega) (by omega)).mono ?_; rintro e w8 ⟨b, hb2, rfl, hc, hg⟩; have HD8 := Lib.hid (HDd.out.call hc hg); have y0 := HD8.out.cells.1; have y1 := HD8.out.cells.2; have hw8 : IntKind.i64.wrap (8 + (b : Int)) = 8 + (b : Int) := IntWalk.i64_in _ (by omega); clear hc hg; dsimp only)
          all_goals
            by_cases hlt : l.q.length < 8 + b
            · have hlt2 : (l.q.length : Int) < 8 + (b : Int) := by omega
              go_wp2_with (at_builtin; refine wpList_append_own_at _ rfl _ _ 24 rfl w.heap.size 66 i0 (.agg #[.bool false, .string ⟨#[]⟩]) 2 24 Try.underlying24 hi hz0 hz1 hz2 rfl (by decide) _ l.q.length (slF l.q) rfl (HD8.out.alloc _).own ⟨w8.heap.size, 0, none⟩ 1 1 (slC (⟨true, ⟨#[122]⟩⟩ : Sl)) rfl rfl (row_news (row_litSl (t := (⟨true, ⟨#[122]⟩⟩ : Sl)) (Bx.new w8 _ _))) (slC_one _) (by unfold maxLen; omega) (by omega) (by have := HD8.out.gr.size; simp; omega) ?_; intro v3 w9 hown3 hgrow3 hnil3 hat3; obtain ⟨a3, c3, rfl, _, _⟩ := ownz_slice hown3; obtain ⟨hbx, hd⟩ := HD8.out.app hown3 hgrow3 hat3; have HD9 := Lib.hid hd; have z0 := hbx.at 0 (v := .int .i64 l.x) rfl; have z1 := hbx.at 1 (v := .slice a7 l.q.length c7) rfl; have fz0 := hbx.free 0; have fz1 := hbx.free 1; clear hnil3 hown3 hgrow3 hat3 hbx hd)
              go_roundw
              case rel => exact ⟨_, ⟨l.x, l.q ++ [⟨true, ⟨#[122]⟩⟩]⟩, by simp; omega, Lib.hid (all_snocR HZ.out (by decide)), Lib.hid (by have h9 := HD9.out.mono (show _ ≤ m + 204 + 2 * (l.q ++ [(⟨true, ⟨#[122]⟩⟩ : Sl)]).length by simp; omega); exact h9)⟩
              case measure =>
                rw [HT0.out, HD9.out.cells.2]
                simp [sLen]; omega
            · have hlt2 : 8 + (b : Int) ≤ (l.q.length : Int) := by omega
              go_wp2_with fail
              go_meet
              case rel => exact ⟨_, l, by omega, HZ, Lib.hid (HD8.out.mono (by omega))⟩
      have h3 : ((k7 : Int) == 3) = false := by simp; omega
      go_wp2_with fail
      go_meet
      case rel => exact ⟨_, l, by omega, HZ, Lib.hid (HD7.out.mono (by omega))⟩
    case rest =>
      obtain ⟨v, L, hLq, HZL, HL⟩ := hcut
      rename World => W9
      clear HD7
      obtain ⟨a7, c7, rfl, _, _⟩ := ownz_slice HL.out.own
      obtain ⟨x0, x1⟩ := HL.out.cells
      have y0 := HL.out.res.at 0 (v := .int .i64 0) rfl
      have y1 := HL.out.res.at 1 (v := .slice none 0 0) rfl
      have f0 := HL.out.res.free 0
      have f1 := HL.out.res.free 1
      go_wp2_with fail
      obtain ⟨p1, q1⟩ := HL.out.res.store2 (.int .i64 L.x) (.slice a7 L.q.length c7)
      refine bodyPost_ret (results_bx rfl isRw _ _ Q rfl rfl p1) rfl ⟨_, L, rfl, HL.out.own.kept q1 ?_, ⟨hLq, HZL.out⟩, (HL.out.cur.grown' q1 (fun k hk => by have e2 : Q = k := Option.some.inj hk; have := HL.out.hQ; have := HL.out.hB; omega)).mono (by omega), g_fresh HL.out.gr q1 HL.out.hQ⟩
      cases hv : (Value.slice a7 L.q.length c7).ownBlock with
      | none => exact .inl rfl
      | some k => exact .inr (some_neB (HL.out.nv k hv).2)
end Go.Proofs.Ytpmjdppipalfcaa
