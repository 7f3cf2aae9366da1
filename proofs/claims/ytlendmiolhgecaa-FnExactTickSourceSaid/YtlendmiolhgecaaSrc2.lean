/-
  Sources: holds that are kept (the specification's).
-/
import Derived.Test.YtlendmiolhgecaaSrc
import Derived.Deep.QuietTactic
import Derived.BigQuiet
import Derived.IntWalk
import Derived.Deep.CutRange
import Derived.WalkLawsBesides
import Derived.Lib.SmallJoins
import Derived.Deep.RegionHeld3
namespace Go.Proofs.Ytlendmiolhgecaa
open Go.RowKit Go.Lib Go.Joins
set_option linter.unusedVariables false

theorem keepH_yes {w : Sw} {c : Int} {h : List Hd} {k : Nat} (hk : k < h.length) (h1 : heldB w h[k].n = true) (h2 : c < h[k].u) : keepH w c (h.take (k + 1)) = keepH w c (h.take k) ++ [h[k]] := by
  unfold keepH
  rw [List.take_succ_eq_append_getElem hk, List.filter_append]
  congr 1
  simp [h1, h2]
theorem keepH_not {w : Sw} {c : Int} {h : List Hd} {k : Nat} (hk : k < h.length) (h1 : heldB w h[k].n = false ∨ ¬ c < h[k].u) : keepH w c (h.take (k + 1)) = keepH w c (h.take k) := by
  unfold keepH
  rw [List.take_succ_eq_append_getElem hk, List.filter_append]
  rcases h1 with h1 | h1 <;> simp [h1]
set_option maxRecDepth 100000 in
set_option maxHeartbeats 8000000 in
theorem l11Holds_any (v hv : Value) (l : Sw) (h : List Hd) (c : Int) (w : World) (hrow : Row w v l.q.length (l.q.map Value.string)) (hhr : Row w hv h.length (hdF h)) (ht : 0 ≤ l.t ∧ l.t ≤ 65535) (hs : ∀ x ∈ h, serB x.n = true) (hl : h.length ≤ 1000) :
    Calls Try.prog 99 #[hv, .agg #[.int .i64 l.t, .int .i64 l.z, v], .int .i64 c] w fun e w' => ∃ v', e = .returned v' ∧ w'.ownsRow w.heap.size 82 2 v' (keepH l c h).length (hdF (keepH l c h)) ∧ Below w.heap.size w w' := by
  obtain ⟨i0, hi, hz0, hz1, hz2⟩ := info_parts infoHd
  obtain ⟨t, z, q⟩ := l
  dsimp only at hrow ht ⊢
  obtain ⟨a, cap, rfl, hc1, hm1, -⟩ := row_open hrow
  obtain ⟨b, caph, rfl, hc2, hm2, -⟩ := hd_open hhr
  unfold maxLen at hm1 hm2
  have HP := Lib.hid hrow
  have HH := Lib.hid hhr
  have HS := Lib.hid hs
  have HT := Lib.hid ht
  clear hrow hhr hs ht
  obtain ⟨W0, R_W, hW0, hR_W, hX_W, hB0⟩ := entry1 w #[.int .i64 t, .int .i64 z, .slice a q.length cap] 26
  have HW0 := Lib.hid hW0
  have HB0 := Lib.hid hB0
  have HR_W := Lib.hid hR_W
  have HX_W := Lib.hid hX_W
  clear hW0 hB0 hR_W hX_W
  have HO0 := Lib.hid (OutHd.start W0 W0 (Below.refl _ _))
  have c1_W_0 := HX_W.out.at 0 (v := .int .i64 t) rfl
  have c1_W_1 := HX_W.out.at 1 (v := .int .i64 z) rfl
  have c1_W_2 := HX_W.out.at 2 (v := .slice a q.length cap) rfl
  go_enter Try.func99, Try.ntmps99
  go_upto_region 1 with fail
  rw [← HW0.out, ← HR_W.out]
  go_wp2_with fail
  clear c1_W_0 c1_W_1 c1_W_2
  go_loopw [7, 8] (fun y i wr => ∃ k gg cc : Nat, k ≤ h.length ∧ i = .int .i64 k ∧ ∃ zs : List Hd, zs = keepH ⟨t, z, q⟩ c (h.take k) ∧ y = .slice (some ⟨gg, 0, none⟩) zs.length cc ∧ Hid (OutHd W0 wr (.slice (some ⟨gg, 0, none⟩) zs.length cc) zs)) (fun _ i _ => h.length - (RowKit.intOf i).toNat)
  case atStart => exact ⟨0, _, 0, Nat.zero_le _, rfl, [], rfl, rfl, HO0⟩
  case round =>
    clear HO0
    obtain ⟨k, gg, cc, hk, rfl, zs, hzs, rfl, HO⟩ := hrel
    have HBr := Lib.hid (HB0.out.trans (HO.out.bel.mono HB0.out.size))
    have W_r := Lib.hid (HX_W.out.below HO.out.bel HX_W.out.lt)
    by_cases hkn : k < h.length
    · obtain ⟨bb, off, rfl, hb, d0, d1⟩ := row_hd HH.out hkn
      have e0 := (HBr.out.cell (p := ⟨bb, off + k * 2, none⟩) hb).trans d0
      have e1 := (HBr.out.cell (p := ⟨bb, off + k * 2 + 1, none⟩) hb).trans d1
      have hbr : bb < wr.heap.size := Nat.lt_of_lt_of_le hb HBr.out.size
      have HY : Hid (heldB ⟨t, z, q⟩ h[k].n = true → c < h[k].u → zs ++ [h[k]] = keepH ⟨t, z, q⟩ c (h.take (k + 1))) := Lib.hid (fun y1 y2 => by rw [hzs]; exact (keepH_yes hkn y1 y2).symm)
      have HNo : Hid ((heldB ⟨t, z, q⟩ h[k].n = false ∨ ¬ c < h[k].u) → zs = keepH ⟨t, z, q⟩ c (h.take (k + 1))) := Lib.hid (fun y1 => by rw [hzs]; exact (keepH_not hkn y1).symm)
      have hzl : zs.length ≤ h.length := by
        rw [hzs]
        exact Nat.le_trans (keepH_len _ _ _) (by rw [List.length_take]; omega)
      have HHe := Lib.hid (fun (W1 : World) (hr : Row W1 (.slice a q.length cap) q.length (q.map Value.string)) => l9Held_any (.slice a q.length cap) ⟨t, z, q⟩ h[k].n W1 hr HT.out (serB_bd (HS.out _ (List.getElem_mem hkn))))
      clear hzs d0 d1
      generalize h[k] = x at e0 e1 HY HNo HHe
      obtain ⟨n, hu⟩ := x
      dsimp only at e0 e1 HY HNo HHe
      have i1 : (k : Int) < (h.length : Int) := by omega
      have i2 : decide (k < h.length) = true := decide_eq_true hkn
      cases hhb : heldB ⟨t, z, q⟩ n with
      | false =>
        rw [hhb] at HHe
        have HZ2 := Lib.hid (HNo.out (.inl hhb))
        clear hhb HY HNo
        have HK1 := Lib.hid (fun (w' : World) (hb : Below wr.heap.size wr w') => (show w'.cell? ⟨R_W, 0, none⟩ = some (.int .i64 t) ∧ w'.cell? ⟨R_W, 1, none⟩ = some (.int .i64 z) ∧ w'.cell? ⟨R_W, 2, none⟩ = some (.slice a q.length cap) ∧ w'.cell? ⟨bb, off + k * 2, none⟩ = some (.int .i64 n) ∧ w'.cell? ⟨bb, off + k * 2 + 1, none⟩ = some (.int .i64 hu) ∧ Below w.heap.size w w' from ⟨(hb.cell (p := ⟨R_W, 0, none⟩) W_r.out.lt).trans (W_r.out.at 0 (v := .int .i64 t) rfl), (hb.cell (p := ⟨R_W, 1, none⟩) W_r.out.lt).trans (W_r.out.at 1 (v := .int .i64 z) rfl), (hb.cell (p := ⟨R_W, 2, none⟩) W_r.out.lt).trans (W_r.out.at 2 (v := .slice a q.length cap) rfl), (hb.cell (p := ⟨bb, off + k * 2, none⟩) hbr).trans e0, (hb.cell (p := ⟨bb, off + k * 2 + 1, none⟩) hbr).trans e1, HBr.out.trans (hb.mono HBr.out.size)⟩))
        have c2_W_0 := W_r.out.at 0 (v := .int .i64 t) rfl
        have c2_W_1 := W_r.out.at 1 (v := .int .i64 z) rfl
        have c2_W_2 := W_r.out.at 2 (v := .slice a q.length cap) rfl
        go_upto_region 5 with fail
        refine wp_region_held_drew (S := (fun w' => w'.cell? ⟨R_W, 0, none⟩ = some (.int .i64 t) ∧ w'.cell? ⟨R_W, 1, none⟩ = some (.int .i64 z) ∧ w'.cell? ⟨R_W, 2, none⟩ = some (.slice a q.length cap) ∧ w'.cell? ⟨bb, off + k * 2, none⟩ = some (.int .i64 n) ∧ w'.cell? ⟨bb, off + k * 2 + 1, none⟩ = some (.int .i64 hu) ∧ Below w.heap.size w w')) (by kernel_rfl) ?_ (fun hHeld => ?_)
        · exact HK1.out _ (Below.drew (Below.refl _ _))
        (refine wpAnyH_take (i := 0) (oi := { dst := some 16, op := Go.Op.load 26 (Go.Operand.tmp 4), type := 26, pos := "l11_source.go:37", after := #[], guard := none }) (v := (.agg #[.int .i64 t, .int .i64 z, .slice a q.length cap])) rfl (by kernel_rfl) (by kernel_rfl) (by kernel_rfl) (fun _ _ _ h => h) (Or.inl ⟨by rfl, ?_⟩) (by assumption) ?_; (focus (intro w' hSw; (try dsimp only at hSw); go_simp; (try with_reducible rfl))); (try simp only [Act.put, List.setIfInBounds_toArray, List.set_cons_zero, List.set_cons_succ]))
        (refine wpAnyH_take (i := 1) (oi := { dst := some 17, op := Go.Op.move (Go.Operand.tmp 0), type := 27, pos := "l11_source.go:37", after := #[], guard := none }) (v := (.slice (some ⟨bb, off, none⟩) h.length caph)) rfl (by kernel_rfl) (by kernel_rfl) (by kernel_rfl) (fun _ _ _ h => h) (Or.inl ⟨by rfl, ?_⟩) (by assumption) ?_; (focus (intro w' hSw; (try dsimp only at hSw); go_simp; (try with_reducible rfl))); (try simp only [Act.put, List.setIfInBounds_toArray, List.set_cons_zero, List.set_cons_succ]))
        (refine wpAnyH_take (i := 2) (oi := { dst := some 18, op := Go.Op.move (Go.Operand.tmp 8), type := 3, pos := "l11_source.go:37", after := #[], guard := none }) (v := (.int .i64 (k : Nat))) rfl (by kernel_rfl) (by kernel_rfl) (by kernel_rfl) (fun _ _ _ h => h) (Or.inl ⟨by rfl, ?_⟩) (by assumption) ?_; (focus (intro w' hSw; (try dsimp only at hSw); go_simp; (try with_reducible rfl))); (try simp only [Act.put, List.setIfInBounds_toArray, List.set_cons_zero, List.set_cons_succ]))
        (refine wpAnyH_take (i := 3) (oi := { dst := some 19, op := Go.Op.indexAddr 27 (Go.Operand.tmp 17) (Go.Operand.tmp 18), type := 0, pos := "l11_source.go:37", after := #[{ on := 1, ground := Go.Ground.data }, { on := 2, ground := Go.Ground.data }], guard := none }) (v := (.pointer (some ⟨bb, off + k * 2, none⟩))) rfl (by kernel_rfl) (by kernel_rfl) (by kernel_rfl) (fun _ _ _ h => h) (Or.inl ⟨by rfl, ?_⟩) (by assumption) ?_; (focus (intro w' hSw; (try dsimp only at hSw); go_simp; (try with_reducible rfl))); (try simp only [Act.put, List.setIfInBounds_toArray, List.set_cons_zero, List.set_cons_succ]))
        (refine wpAnyH_take (i := 4) (oi := { dst := some 20, op := Go.Op.fieldAddr 82 (Go.Operand.tmp 19) 0, type := 0, pos := "l11_source.go:37", after := #[{ on := 3, ground := Go.Ground.data }], guard := none }) (v := (.pointer (some ⟨bb, off + k * 2, none⟩))) rfl (by kernel_rfl) (by kernel_rfl) (by kernel_rfl) (fun _ _ _ h => h) (Or.inl ⟨by rfl, ?_⟩) (by assumption) ?_; (focus (intro w' hSw; (try dsimp only at hSw); go_simp; (try with_reducible rfl))); (try simp only [Act.put, List.setIfInBounds_toArray, List.set_cons_zero, List.set_cons_succ]))
        (refine wpAnyH_take (i := 5) (oi := { dst := some 21, op := Go.Op.load 3 (Go.Operand.tmp 20), type := 3, pos := "l11_source.go:37", after := #[{ on := 4, ground := Go.Ground.data }], guard := none }) (v := (.int .i64 n)) rfl (by kernel_rfl) (by kernel_rfl) (by kernel_rfl) (fun _ _ _ h => h) (Or.inl ⟨by rfl, ?_⟩) (by assumption) ?_; (focus (intro w' hSw; (try dsimp only at hSw); go_simp; (try with_reducible rfl))); (try simp only [Act.put, List.setIfInBounds_toArray, List.set_cons_zero, List.set_cons_succ]))
        refine wpAnyH_ready (rs := [6]) (by kernel_rfl) (by simp) ?_
        refine AllReadyH.cons rfl (fun K hK => ?_) AllReadyH.nil
        go_simp
        (go_at_call 98; refine (HHe.out _ (HP.out.below (HBr.out.trans ((by repeat (first | with_reducible assumption | with_reducible exact Below.refl _ _ | with_reducible refine Below.drew ?_ | with_reducible refine below_alloc' ?_) : Below wr.heap.size wr _).mono HBr.out.size)) (Nat.le_refl _))).mono ?_; rintro e w7 ⟨rfl, l7⟩; have hb7 := below_call7 (by repeat (first | with_reducible assumption | with_reducible exact Below.refl _ _ | with_reducible refine Below.drew ?_ | with_reducible refine below_alloc' ?_) : Below wr.heap.size wr _) l7; clear l7)
        refine hK.out _ _ ?S11 (fun hHeld1 => ?rest11)
        case S11 =>
          (try dsimp only)
          refine HK1.out _ ?_; (repeat (first | with_reducible assumption | with_reducible exact Below.refl _ _ | with_reducible refine Below.drew ?_ | with_reducible refine below_alloc' ?_)); done
        clear hK K
        clear hHeld
        (try simp only [Act.put, List.setIfInBounds_toArray, List.set_cons_zero, List.set_cons_succ])
        (refine wpAnyH_take (i := 7) (oi := { dst := some 23, op := Go.Op.move (Go.Operand.tmp 22), type := 4, pos := "l11_source.go:37", after := #[{ on := 6, ground := Go.Ground.data }, { on := 6, ground := Go.Ground.chain }], guard := none }) (v := (.bool false)) rfl (by kernel_rfl) (by kernel_rfl) (by kernel_rfl) (fun _ _ _ h => h) (Or.inl ⟨by rfl, ?_⟩) (by assumption) ?_; (focus (intro w' hSw; (try dsimp only at hSw); go_simp; (try with_reducible rfl))); (try simp only [Act.put, List.setIfInBounds_toArray, List.set_cons_zero, List.set_cons_succ]))
        (refine wpAnyH_take (i := 8) (oi := { dst := some 24, op := Go.Op.move (Go.Operand.tmp 0), type := 27, pos := "l11_source.go:37", after := #[{ on := 7, ground := Go.Ground.guard }], guard := some (7, true) }) (v := undef) rfl (by kernel_rfl) (by kernel_rfl) (by kernel_rfl) (fun _ _ _ h => h) (Or.inr ⟨by kernel_rfl, rfl⟩) (by assumption) ?_; (try simp only [Act.put, List.setIfInBounds_toArray, List.set_cons_zero, List.set_cons_succ]))
        (refine wpAnyH_take (i := 9) (oi := { dst := some 25, op := Go.Op.move (Go.Operand.tmp 8), type := 3, pos := "l11_source.go:37", after := #[{ on := 7, ground := Go.Ground.guard }], guard := some (7, true) }) (v := undef) rfl (by kernel_rfl) (by kernel_rfl) (by kernel_rfl) (fun _ _ _ h => h) (Or.inr ⟨by kernel_rfl, rfl⟩) (by assumption) ?_; (try simp only [Act.put, List.setIfInBounds_toArray, List.set_cons_zero, List.set_cons_succ]))
        (refine wpAnyH_take (i := 10) (oi := { dst := some 26, op := Go.Op.indexAddr 27 (Go.Operand.tmp 24) (Go.Operand.tmp 25), type := 0, pos := "l11_source.go:37", after := #[{ on := 8, ground := Go.Ground.data }, { on := 9, ground := Go.Ground.data }, { on := 7, ground := Go.Ground.guard }], guard := some (7, true) }) (v := undef) rfl (by kernel_rfl) (by kernel_rfl) (by kernel_rfl) (fun _ _ _ h => h) (Or.inr ⟨by kernel_rfl, rfl⟩) (by assumption) ?_; (try simp only [Act.put, List.setIfInBounds_toArray, List.set_cons_zero, List.set_cons_succ]))
        (refine wpAnyH_take (i := 11) (oi := { dst := some 27, op := Go.Op.fieldAddr 82 (Go.Operand.tmp 26) 1, type := 0, pos := "l11_source.go:37", after := #[{ on := 10, ground := Go.Ground.data }, { on := 7, ground := Go.Ground.guard }], guard := some (7, true) }) (v := undef) rfl (by kernel_rfl) (by kernel_rfl) (by kernel_rfl) (fun _ _ _ h => h) (Or.inr ⟨by kernel_rfl, rfl⟩) (by assumption) ?_; (try simp only [Act.put, List.setIfInBounds_toArray, List.set_cons_zero, List.set_cons_succ]))
        (refine wpAnyH_take (i := 12) (oi := { dst := some 28, op := Go.Op.load 3 (Go.Operand.tmp 27), type := 3, pos := "l11_source.go:37", after := #[{ on := 11, ground := Go.Ground.data }, { on := 7, ground := Go.Ground.guard }], guard := some (7, true) }) (v := undef) rfl (by kernel_rfl) (by kernel_rfl) (by kernel_rfl) (fun _ _ _ h => h) (Or.inr ⟨by kernel_rfl, rfl⟩) (by assumption) ?_; (try simp only [Act.put, List.setIfInBounds_toArray, List.set_cons_zero, List.set_cons_succ]))
        (refine wpAnyH_take (i := 13) (oi := { dst := some 29, op := Go.Op.move (Go.Operand.tmp 2), type := 3, pos := "l11_source.go:37", after := #[{ on := 7, ground := Go.Ground.guard }], guard := some (7, true) }) (v := undef) rfl (by kernel_rfl) (by kernel_rfl) (by kernel_rfl) (fun _ _ _ h => h) (Or.inr ⟨by kernel_rfl, rfl⟩) (by assumption) ?_; (try simp only [Act.put, List.setIfInBounds_toArray, List.set_cons_zero, List.set_cons_succ]))
        (refine wpAnyH_take (i := 14) (oi := { dst := some 30, op := Go.Op.binOp Go.BinOp.gtr 3 (Go.Operand.tmp 28) (Go.Operand.tmp 29) 3, type := 4, pos := "l11_source.go:37", after := #[{ on := 12, ground := Go.Ground.data }, { on := 13, ground := Go.Ground.data }, { on := 7, ground := Go.Ground.guard }], guard := some (7, true) }) (v := undef) rfl (by kernel_rfl) (by kernel_rfl) (by kernel_rfl) (fun _ _ _ h => h) (Or.inr ⟨by kernel_rfl, rfl⟩) (by assumption) ?_; (try simp only [Act.put, List.setIfInBounds_toArray, List.set_cons_zero, List.set_cons_succ]))
        (refine wpAnyH_take (i := 15) (oi := { dst := some 31, op := Go.Op.pick (Go.Operand.tmp 23) (Go.Operand.tmp 30) (Go.Operand.const (Go.Value.bool false)), type := 4, pos := "l11_source.go:37", after := #[{ on := 7, ground := Go.Ground.data }, { on := 14, ground := Go.Ground.data }], guard := none }) (v := (.bool false)) rfl (by kernel_rfl) (by kernel_rfl) (by kernel_rfl) (fun _ _ _ h => h) (Or.inl ⟨by rfl, ?_⟩) (by assumption) ?_; (focus (intro w' hSw; (try dsimp only at hSw); go_simp; (try with_reducible rfl))); (try simp only [Act.put, List.setIfInBounds_toArray, List.set_cons_zero, List.set_cons_succ]))
        refine wpAnyH_done (by kernel_rfl) ?_ _
        have HO2 := Lib.hid (HO.out.below hb7)
        clear hb7
        go_wp2_with fail
        go_roundw
        case rel => exact ⟨k + 1, gg, cc, by omega, by go_num, zs, HZ2.out, rfl, HO2⟩
        case measure => (simp [RowKit.intOf]; omega)
      | true =>
        rw [hhb] at HHe
        by_cases hcu : c < hu
        rotate_left
        · have i3 : decide (c < hu) = false := decide_eq_false hcu
          have HZ2 := Lib.hid (HNo.out (.inr hcu))
          clear hhb HY HNo hcu
          have HK2 := Lib.hid (fun (w' : World) (hb : Below wr.heap.size wr w') => (show w'.cell? ⟨R_W, 0, none⟩ = some (.int .i64 t) ∧ w'.cell? ⟨R_W, 1, none⟩ = some (.int .i64 z) ∧ w'.cell? ⟨R_W, 2, none⟩ = some (.slice a q.length cap) ∧ w'.cell? ⟨bb, off + k * 2, none⟩ = some (.int .i64 n) ∧ w'.cell? ⟨bb, off + k * 2 + 1, none⟩ = some (.int .i64 hu) ∧ Below w.heap.size w w' from ⟨(hb.cell (p := ⟨R_W, 0, none⟩) W_r.out.lt).trans (W_r.out.at 0 (v := .int .i64 t) rfl), (hb.cell (p := ⟨R_W, 1, none⟩) W_r.out.lt).trans (W_r.out.at 1 (v := .int .i64 z) rfl), (hb.cell (p := ⟨R_W, 2, none⟩) W_r.out.lt).trans (W_r.out.at 2 (v := .slice a q.length cap) rfl), (hb.cell (p := ⟨bb, off + k * 2, none⟩) hbr).trans e0, (hb.cell (p := ⟨bb, off + k * 2 + 1, none⟩) hbr).trans e1, HBr.out.trans (hb.mono HBr.out.size)⟩))
          have c3_W_0 := W_r.out.at 0 (v := .int .i64 t) rfl
          have c3_W_1 := W_r.out.at 1 (v := .int .i64 z) rfl
          have c3_W_2 := W_r.out.at 2 (v := .slice a q.length cap) rfl
          go_upto_region 5 with fail
          refine wp_region_held_drew (S := (fun w' => w'.cell? ⟨R_W, 0, none⟩ = some (.int .i64 t) ∧ w'.cell? ⟨R_W, 1, none⟩ = some (.int .i64 z) ∧ w'.cell? ⟨R_W, 2, none⟩ = some (.slice a q.length cap) ∧ w'.cell? ⟨bb, off + k * 2, none⟩ = some (.int .i64 n) ∧ w'.cell? ⟨bb, off + k * 2 + 1, none⟩ = some (.int .i64 hu) ∧ Below w.heap.size w w')) (by kernel_rfl) ?_ (fun hHeld => ?_)
          · exact HK2.out _ (Below.drew (Below.refl _ _))
          (refine wpAnyH_take (i := 0) (oi := { dst := some 16, op := Go.Op.load 26 (Go.Operand.tmp 4), type := 26, pos := "l11_source.go:37", after := #[], guard := none }) (v := (.agg #[.int .i64 t, .int .i64 z, .slice a q.length cap])) rfl (by kernel_rfl) (by kernel_rfl) (by kernel_rfl) (fun _ _ _ h => h) (Or.inl ⟨by rfl, ?_⟩) (by assumption) ?_; (focus (intro w' hSw; (try dsimp only at hSw); go_simp; (try with_reducible rfl))); (try simp only [Act.put, List.setIfInBounds_toArray, List.set_cons_zero, List.set_cons_succ]))
          (refine wpAnyH_take (i := 1) (oi := { dst := some 17, op := Go.Op.move (Go.Operand.tmp 0), type := 27, pos := "l11_source.go:37", after := #[], guard := none }) (v := (.slice (some ⟨bb, off, none⟩) h.length caph)) rfl (by kernel_rfl) (by kernel_rfl) (by kernel_rfl) (fun _ _ _ h => h) (Or.inl ⟨by rfl, ?_⟩) (by assumption) ?_; (focus (intro w' hSw; (try dsimp only at hSw); go_simp; (try with_reducible rfl))); (try simp only [Act.put, List.setIfInBounds_toArray, List.set_cons_zero, List.set_cons_succ]))
          (refine wpAnyH_take (i := 2) (oi := { dst := some 18, op := Go.Op.move (Go.Operand.tmp 8), type := 3, pos := "l11_source.go:37", after := #[], guard := none }) (v := (.int .i64 (k : Nat))) rfl (by kernel_rfl) (by kernel_rfl) (by kernel_rfl) (fun _ _ _ h => h) (Or.inl ⟨by rfl, ?_⟩) (by assumption) ?_; (focus (intro w' hSw; (try dsimp only at hSw); go_simp; (try with_reducible rfl))); (try simp only [Act.put, List.setIfInBounds_toArray, List.set_cons_zero, List.set_cons_succ]))
          (refine wpAnyH_take (i := 3) (oi := { dst := some 19, op := Go.Op.indexAddr 27 (Go.Operand.tmp 17) (Go.Operand.tmp 18), type := 0, pos := "l11_source.go:37", after := #[{ on := 1, ground := Go.Ground.data }, { on := 2, ground := Go.Ground.data }], guard := none }) (v := (.pointer (some ⟨bb, off + k * 2, none⟩))) rfl (by kernel_rfl) (by kernel_rfl) (by kernel_rfl) (fun _ _ _ h => h) (Or.inl ⟨by rfl, ?_⟩) (by assumption) ?_; (focus (intro w' hSw; (try dsimp only at hSw); go_simp; (try with_reducible rfl))); (try simp only [Act.put, List.setIfInBounds_toArray, List.set_cons_zero, List.set_cons_succ]))
          (refine wpAnyH_take (i := 4) (oi := { dst := some 20, op := Go.Op.fieldAddr 82 (Go.Operand.tmp 19) 0, type := 0, pos := "l11_source.go:37", after := #[{ on := 3, ground := Go.Ground.data }], guard := none }) (v := (.pointer (some ⟨bb, off + k * 2, none⟩))) rfl (by kernel_rfl) (by kernel_rfl) (by kernel_rfl) (fun _ _ _ h => h) (Or.inl ⟨by rfl, ?_⟩) (by assumption) ?_; (focus (intro w' hSw; (try dsimp only at hSw); go_simp; (try with_reducible rfl))); (try simp only [Act.put, List.setIfInBounds_toArray, List.set_cons_zero, List.set_cons_succ]))
          (refine wpAnyH_take (i := 5) (oi := { dst := some 21, op := Go.Op.load 3 (Go.Operand.tmp 20), type := 3, pos := "l11_source.go:37", after := #[{ on := 4, ground := Go.Ground.data }], guard := none }) (v := (.int .i64 n)) rfl (by kernel_rfl) (by kernel_rfl) (by kernel_rfl) (fun _ _ _ h => h) (Or.inl ⟨by rfl, ?_⟩) (by assumption) ?_; (focus (intro w' hSw; (try dsimp only at hSw); go_simp; (try with_reducible rfl))); (try simp only [Act.put, List.setIfInBounds_toArray, List.set_cons_zero, List.set_cons_succ]))
          refine wpAnyH_ready (rs := [6]) (by kernel_rfl) (by simp) ?_
          refine AllReadyH.cons rfl (fun K hK => ?_) AllReadyH.nil
          go_simp
          (go_at_call 98; refine (HHe.out _ (HP.out.below (HBr.out.trans ((by repeat (first | with_reducible assumption | with_reducible exact Below.refl _ _ | with_reducible refine Below.drew ?_ | with_reducible refine below_alloc' ?_) : Below wr.heap.size wr _).mono HBr.out.size)) (Nat.le_refl _))).mono ?_; rintro e w7 ⟨rfl, l7⟩; have hb7 := below_call7 (by repeat (first | with_reducible assumption | with_reducible exact Below.refl _ _ | with_reducible refine Below.drew ?_ | with_reducible refine below_alloc' ?_) : Below wr.heap.size wr _) l7; clear l7)
          refine hK.out _ _ ?S12 (fun hHeld1 => ?rest12)
          case S12 =>
            (try dsimp only)
            refine HK2.out _ ?_; (repeat (first | with_reducible assumption | with_reducible exact Below.refl _ _ | with_reducible refine Below.drew ?_ | with_reducible refine below_alloc' ?_)); done
          clear hK K
          clear hHeld
          (try simp only [Act.put, List.setIfInBounds_toArray, List.set_cons_zero, List.set_cons_succ])
          (refine wpAnyH_take (i := 7) (oi := { dst := some 23, op := Go.Op.move (Go.Operand.tmp 22), type := 4, pos := "l11_source.go:37", after := #[{ on := 6, ground := Go.Ground.data }, { on := 6, ground := Go.Ground.chain }], guard := none }) (v := (.bool true)) rfl (by kernel_rfl) (by kernel_rfl) (by kernel_rfl) (fun _ _ _ h => h) (Or.inl ⟨by rfl, ?_⟩) (by assumption) ?_; (focus (intro w' hSw; (try dsimp only at hSw); go_simp; (try with_reducible rfl))); (try simp only [Act.put, List.setIfInBounds_toArray, List.set_cons_zero, List.set_cons_succ]))
          (refine wpAnyH_take (i := 8) (oi := { dst := some 24, op := Go.Op.move (Go.Operand.tmp 0), type := 27, pos := "l11_source.go:37", after := #[{ on := 7, ground := Go.Ground.guard }], guard := some (7, true) }) (v := (.slice (some ⟨bb, off, none⟩) h.length caph)) rfl (by kernel_rfl) (by kernel_rfl) (by kernel_rfl) (fun _ _ _ h => h) (Or.inl ⟨by rfl, ?_⟩) (by assumption) ?_; (focus (intro w' hSw; (try dsimp only at hSw); go_simp; (try with_reducible rfl))); (try simp only [Act.put, List.setIfInBounds_toArray, List.set_cons_zero, List.set_cons_succ]))
          (refine wpAnyH_take (i := 9) (oi := { dst := some 25, op := Go.Op.move (Go.Operand.tmp 8), type := 3, pos := "l11_source.go:37", after := #[{ on := 7, ground := Go.Ground.guard }], guard := some (7, true) }) (v := (.int .i64 (k : Nat))) rfl (by kernel_rfl) (by kernel_rfl) (by kernel_rfl) (fun _ _ _ h => h) (Or.inl ⟨by rfl, ?_⟩) (by assumption) ?_; (focus (intro w' hSw; (try dsimp only at hSw); go_simp; (try with_reducible rfl))); (try simp only [Act.put, List.setIfInBounds_toArray, List.set_cons_zero, List.set_cons_succ]))
          (refine wpAnyH_take (i := 10) (oi := { dst := some 26, op := Go.Op.indexAddr 27 (Go.Operand.tmp 24) (Go.Operand.tmp 25), type := 0, pos := "l11_source.go:37", after := #[{ on := 8, ground := Go.Ground.data }, { on := 9, ground := Go.Ground.data }, { on := 7, ground := Go.Ground.guard }], guard := some (7, true) }) (v := (.pointer (some ⟨bb, off + k * 2, none⟩))) rfl (by kernel_rfl) (by kernel_rfl) (by kernel_rfl) (fun _ _ _ h => h) (Or.inl ⟨by rfl, ?_⟩) (by assumption) ?_; (focus (intro w' hSw; (try dsimp only at hSw); go_simp; (try with_reducible rfl))); (try simp only [Act.put, List.setIfInBounds_toArray, List.set_cons_zero, List.set_cons_succ]))
          (refine wpAnyH_take (i := 11) (oi := { dst := some 27, op := Go.Op.fieldAddr 82 (Go.Operand.tmp 26) 1, type := 0, pos := "l11_source.go:37", after := #[{ on := 10, ground := Go.Ground.data }, { on := 7, ground := Go.Ground.guard }], guard := some (7, true) }) (v := (.pointer (some ⟨bb, off + k * 2 + 1, none⟩))) rfl (by kernel_rfl) (by kernel_rfl) (by kernel_rfl) (fun _ _ _ h => h) (Or.inl ⟨by rfl, ?_⟩) (by assumption) ?_; (focus (intro w' hSw; (try dsimp only at hSw); go_simp; (try with_reducible rfl))); (try simp only [Act.put, List.setIfInBounds_toArray, List.set_cons_zero, List.set_cons_succ]))
          (refine wpAnyH_take (i := 12) (oi := { dst := some 28, op := Go.Op.load 3 (Go.Operand.tmp 27), type := 3, pos := "l11_source.go:37", after := #[{ on := 11, ground := Go.Ground.data }, { on := 7, ground := Go.Ground.guard }], guard := some (7, true) }) (v := (.int .i64 hu)) rfl (by kernel_rfl) (by kernel_rfl) (by kernel_rfl) (fun _ _ _ h => h) (Or.inl ⟨by rfl, ?_⟩) (by assumption) ?_; (focus (intro w' hSw; (try dsimp only at hSw); go_simp; (try with_reducible rfl))); (try simp only [Act.put, List.setIfInBounds_toArray, List.set_cons_zero, List.set_cons_succ]))
          (refine wpAnyH_take (i := 13) (oi := { dst := some 29, op := Go.Op.move (Go.Operand.tmp 2), type := 3, pos := "l11_source.go:37", after := #[{ on := 7, ground := Go.Ground.guard }], guard := some (7, true) }) (v := (.int .i64 c)) rfl (by kernel_rfl) (by kernel_rfl) (by kernel_rfl) (fun _ _ _ h => h) (Or.inl ⟨by rfl, ?_⟩) (by assumption) ?_; (focus (intro w' hSw; (try dsimp only at hSw); go_simp; (try with_reducible rfl))); (try simp only [Act.put, List.setIfInBounds_toArray, List.set_cons_zero, List.set_cons_succ]))
          (refine wpAnyH_take (i := 14) (oi := { dst := some 30, op := Go.Op.binOp Go.BinOp.gtr 3 (Go.Operand.tmp 28) (Go.Operand.tmp 29) 3, type := 4, pos := "l11_source.go:37", after := #[{ on := 12, ground := Go.Ground.data }, { on := 13, ground := Go.Ground.data }, { on := 7, ground := Go.Ground.guard }], guard := some (7, true) }) (v := (.bool false)) rfl (by kernel_rfl) (by kernel_rfl) (by kernel_rfl) (fun _ _ _ h => h) (Or.inl ⟨by rfl, ?_⟩) (by assumption) ?_; (focus (intro w' hSw; (try dsimp only at hSw); go_simp; (try with_reducible rfl))); (try simp only [Act.put, List.setIfInBounds_toArray, List.set_cons_zero, List.set_cons_succ]))
          (refine wpAnyH_take (i := 15) (oi := { dst := some 31, op := Go.Op.pick (Go.Operand.tmp 23) (Go.Operand.tmp 30) (Go.Operand.const (Go.Value.bool false)), type := 4, pos := "l11_source.go:37", after := #[{ on := 7, ground := Go.Ground.data }, { on := 14, ground := Go.Ground.data }], guard := none }) (v := (.bool false)) rfl (by kernel_rfl) (by kernel_rfl) (by kernel_rfl) (fun _ _ _ h => h) (Or.inl ⟨by rfl, ?_⟩) (by assumption) ?_; (focus (intro w' hSw; (try dsimp only at hSw); go_simp; (try with_reducible rfl))); (try simp only [Act.put, List.setIfInBounds_toArray, List.set_cons_zero, List.set_cons_succ]))
          refine wpAnyH_done (by kernel_rfl) ?_ _
          have HO2 := Lib.hid (HO.out.below hb7)
          clear hb7
          go_wp2_with fail
          go_roundw
          case rel => exact ⟨k + 1, gg, cc, by omega, by go_num, zs, HZ2.out, rfl, HO2⟩
          case measure => (simp [RowKit.intOf]; omega)
        have i3 : decide (c < hu) = true := decide_eq_true hcu
        have HZ2 := Lib.hid (HY.out hhb hcu)
        clear hhb HY HNo hcu
        have HK3 := Lib.hid (fun (w' : World) (hb : Below wr.heap.size wr w') => (show w'.cell? ⟨R_W, 0, none⟩ = some (.int .i64 t) ∧ w'.cell? ⟨R_W, 1, none⟩ = some (.int .i64 z) ∧ w'.cell? ⟨R_W, 2, none⟩ = some (.slice a q.length cap) ∧ w'.cell? ⟨bb, off + k * 2, none⟩ = some (.int .i64 n) ∧ w'.cell? ⟨bb, off + k * 2 + 1, none⟩ = some (.int .i64 hu) ∧ Below w.heap.size w w' from ⟨(hb.cell (p := ⟨R_W, 0, none⟩) W_r.out.lt).trans (W_r.out.at 0 (v := .int .i64 t) rfl), (hb.cell (p := ⟨R_W, 1, none⟩) W_r.out.lt).trans (W_r.out.at 1 (v := .int .i64 z) rfl), (hb.cell (p := ⟨R_W, 2, none⟩) W_r.out.lt).trans (W_r.out.at 2 (v := .slice a q.length cap) rfl), (hb.cell (p := ⟨bb, off + k * 2, none⟩) hbr).trans e0, (hb.cell (p := ⟨bb, off + k * 2 + 1, none⟩) hbr).trans e1, HBr.out.trans (hb.mono HBr.out.size)⟩))
        have c4_W_0 := W_r.out.at 0 (v := .int .i64 t) rfl
        have c4_W_1 := W_r.out.at 1 (v := .int .i64 z) rfl
        have c4_W_2 := W_r.out.at 2 (v := .slice a q.length cap) rfl
        go_upto_region 5 with fail
        refine wp_region_held_drew (S := (fun w' => w'.cell? ⟨R_W, 0, none⟩ = some (.int .i64 t) ∧ w'.cell? ⟨R_W, 1, none⟩ = some (.int .i64 z) ∧ w'.cell? ⟨R_W, 2, none⟩ = some (.slice a q.length cap) ∧ w'.cell? ⟨bb, off + k * 2, none⟩ = some (.int .i64 n) ∧ w'.cell? ⟨bb, off + k * 2 + 1, none⟩ = some (.int .i64 hu) ∧ Below w.heap.size w w')) (by kernel_rfl) ?_ (fun hHeld => ?_)
        · exact HK3.out _ (Below.drew (Below.refl _ _))
        (refine wpAnyH_take (i := 0) (oi := { dst := some 16, op := Go.Op.load 26 (Go.Operand.tmp 4), type := 26, pos := "l11_source.go:37", after := #[], guard := none }) (v := (.agg #[.int .i64 t, .int .i64 z, .slice a q.length cap])) rfl (by kernel_rfl) (by kernel_rfl) (by kernel_rfl) (fun _ _ _ h => h) (Or.inl ⟨by rfl, ?_⟩) (by assumption) ?_; (focus (intro w' hSw; (try dsimp only at hSw); go_simp; (try with_reducible rfl))); (try simp only [Act.put, List.setIfInBounds_toArray, List.set_cons_zero, List.set_cons_succ]))
        (refine wpAnyH_take (i := 1) (oi := { dst := some 17, op := Go.Op.move (Go.Operand.tmp 0), type := 27, pos := "l11_source.go:37", after := #[], guard := none }) (v := (.slice (some ⟨bb, off, none⟩) h.length caph)) rfl (by kernel_rfl) (by kernel_rfl) (by kernel_rfl) (fun _ _ _ h => h) (Or.inl ⟨by rfl, ?_⟩) (by assumption) ?_; (focus (intro w' hSw; (try dsimp only at hSw); go_simp; (try with_reducible rfl))); (try simp only [Act.put, List.setIfInBounds_toArray, List.set_cons_zero, List.set_cons_succ]))
        (refine wpAnyH_take (i := 2) (oi := { dst := some 18, op := Go.Op.move (Go.Operand.tmp 8), type := 3, pos := "l11_source.go:37", after := #[], guard := none }) (v := (.int .i64 (k : Nat))) rfl (by kernel_rfl) (by kernel_rfl) (by kernel_rfl) (fun _ _ _ h => h) (Or.inl ⟨by rfl, ?_⟩) (by assumption) ?_; (focus (intro w' hSw; (try dsimp only at hSw); go_simp; (try with_reducible rfl))); (try simp only [Act.put, List.setIfInBounds_toArray, List.set_cons_zero, List.set_cons_succ]))
        (refine wpAnyH_take (i := 3) (oi := { dst := some 19, op := Go.Op.indexAddr 27 (Go.Operand.tmp 17) (Go.Operand.tmp 18), type := 0, pos := "l11_source.go:37", after := #[{ on := 1, ground := Go.Ground.data }, { on := 2, ground := Go.Ground.data }], guard := none }) (v := (.pointer (some ⟨bb, off + k * 2, none⟩))) rfl (by kernel_rfl) (by kernel_rfl) (by kernel_rfl) (fun _ _ _ h => h) (Or.inl ⟨by rfl, ?_⟩) (by assumption) ?_; (focus (intro w' hSw; (try dsimp only at hSw); go_simp; (try with_reducible rfl))); (try simp only [Act.put, List.setIfInBounds_toArray, List.set_cons_zero, List.set_cons_succ]))
        (refine wpAnyH_take (i := 4) (oi := { dst := some 20, op := Go.Op.fieldAddr 82 (Go.Operand.tmp 19) 0, type := 0, pos := "l11_source.go:37", after := #[{ on := 3, ground := Go.Ground.data }], guard := none }) (v := (.pointer (some ⟨bb, off + k * 2, none⟩))) rfl (by kernel_rfl) (by kernel_rfl) (by kernel_rfl) (fun _ _ _ h => h) (Or.inl ⟨by rfl, ?_⟩) (by assumption) ?_; (focus (intro w' hSw; (try dsimp only at hSw); go_simp; (try with_reducible rfl))); (try simp only [Act.put, List.setIfInBounds_toArray, List.set_cons_zero, List.set_cons_succ]))
        (refine wpAnyH_take (i := 5) (oi := { dst := some 21, op := Go.Op.load 3 (Go.Operand.tmp 20), type := 3, pos := "l11_source.go:37", after := #[{ on := 4, ground := Go.Ground.data }], guard := none }) (v := (.int .i64 n)) rfl (by kernel_rfl) (by kernel_rfl) (by kernel_rfl) (fun _ _ _ h => h) (Or.inl ⟨by rfl, ?_⟩) (by assumption) ?_; (focus (intro w' hSw; (try dsimp only at hSw); go_simp; (try with_reducible rfl))); (try simp only [Act.put, List.setIfInBounds_toArray, List.set_cons_zero, List.set_cons_succ]))
        refine wpAnyH_ready (rs := [6]) (by kernel_rfl) (by simp) ?_
        refine AllReadyH.cons rfl (fun K hK => ?_) AllReadyH.nil
        go_simp
        (go_at_call 98; refine (HHe.out _ (HP.out.below (HBr.out.trans ((by repeat (first | with_reducible assumption | with_reducible exact Below.refl _ _ | with_reducible refine Below.drew ?_ | with_reducible refine below_alloc' ?_) : Below wr.heap.size wr _).mono HBr.out.size)) (Nat.le_refl _))).mono ?_; rintro e w7 ⟨rfl, l7⟩; have hb7 := below_call7 (by repeat (first | with_reducible assumption | with_reducible exact Below.refl _ _ | with_reducible refine Below.drew ?_ | with_reducible refine below_alloc' ?_) : Below wr.heap.size wr _) l7; clear l7)
        refine hK.out _ _ ?S13 (fun hHeld1 => ?rest13)
        case S13 =>
          (try dsimp only)
          refine HK3.out _ ?_; (repeat (first | with_reducible assumption | with_reducible exact Below.refl _ _ | with_reducible refine Below.drew ?_ | with_reducible refine below_alloc' ?_)); done
        clear hK K
        clear hHeld
        (try simp only [Act.put, List.setIfInBounds_toArray, List.set_cons_zero, List.set_cons_succ])
        (refine wpAnyH_take (i := 7) (oi := { dst := some 23, op := Go.Op.move (Go.Operand.tmp 22), type := 4, pos := "l11_source.go:37", after := #[{ on := 6, ground := Go.Ground.data }, { on := 6, ground := Go.Ground.chain }], guard := none }) (v := (.bool true)) rfl (by kernel_rfl) (by kernel_rfl) (by kernel_rfl) (fun _ _ _ h => h) (Or.inl ⟨by rfl, ?_⟩) (by assumption) ?_; (focus (intro w' hSw; (try dsimp only at hSw); go_simp; (try with_reducible rfl))); (try simp only [Act.put, List.setIfInBounds_toArray, List.set_cons_zero, List.set_cons_succ]))
        (refine wpAnyH_take (i := 8) (oi := { dst := some 24, op := Go.Op.move (Go.Operand.tmp 0), type := 27, pos := "l11_source.go:37", after := #[{ on := 7, ground := Go.Ground.guard }], guard := some (7, true) }) (v := (.slice (some ⟨bb, off, none⟩) h.length caph)) rfl (by kernel_rfl) (by kernel_rfl) (by kernel_rfl) (fun _ _ _ h => h) (Or.inl ⟨by rfl, ?_⟩) (by assumption) ?_; (focus (intro w' hSw; (try dsimp only at hSw); go_simp; (try with_reducible rfl))); (try simp only [Act.put, List.setIfInBounds_toArray, List.set_cons_zero, List.set_cons_succ]))
        (refine wpAnyH_take (i := 9) (oi := { dst := some 25, op := Go.Op.move (Go.Operand.tmp 8), type := 3, pos := "l11_source.go:37", after := #[{ on := 7, ground := Go.Ground.guard }], guard := some (7, true) }) (v := (.int .i64 (k : Nat))) rfl (by kernel_rfl) (by kernel_rfl) (by kernel_rfl) (fun _ _ _ h => h) (Or.inl ⟨by rfl, ?_⟩) (by assumption) ?_; (focus (intro w' hSw; (try dsimp only at hSw); go_simp; (try with_reducible rfl))); (try simp only [Act.put, List.setIfInBounds_toArray, List.set_cons_zero, List.set_cons_succ]))
        (refine wpAnyH_take (i := 10) (oi := { dst := some 26, op := Go.Op.indexAddr 27 (Go.Operand.tmp 24) (Go.Operand.tmp 25), type := 0, pos := "l11_source.go:37", after := #[{ on := 8, ground := Go.Ground.data }, { on := 9, ground := Go.Ground.data }, { on := 7, ground := Go.Ground.guard }], guard := some (7, true) }) (v := (.pointer (some ⟨bb, off + k * 2, none⟩))) rfl (by kernel_rfl) (by kernel_rfl) (by kernel_rfl) (fun _ _ _ h => h) (Or.inl ⟨by rfl, ?_⟩) (by assumption) ?_; (focus (intro w' hSw; (try dsimp only at hSw); go_simp; (try with_reducible rfl))); (try simp only [Act.put, List.setIfInBounds_toArray, List.set_cons_zero, List.set_cons_succ]))
        (refine wpAnyH_take (i := 11) (oi := { dst := some 27, op := Go.Op.fieldAddr 82 (Go.Operand.tmp 26) 1, type := 0, pos := "l11_source.go:37", after := #[{ on := 10, ground := Go.Ground.data }, { on := 7, ground := Go.Ground.guard }], guard := some (7, true) }) (v := (.pointer (some ⟨bb, off + k * 2 + 1, none⟩))) rfl (by kernel_rfl) (by kernel_rfl) (by kernel_rfl) (fun _ _ _ h => h) (Or.inl ⟨by rfl, ?_⟩) (by assumption) ?_; (focus (intro w' hSw; (try dsimp only at hSw); go_simp; (try with_reducible rfl))); (try simp only [Act.put, List.setIfInBounds_toArray, List.set_cons_zero, List.set_cons_succ]))
        (refine wpAnyH_take (i := 12) (oi := { dst := some 28, op := Go.Op.load 3 (Go.Operand.tmp 27), type := 3, pos := "l11_source.go:37", after := #[{ on := 11, ground := Go.Ground.data }, { on := 7, ground := Go.Ground.guard }], guard := some (7, true) }) (v := (.int .i64 hu)) rfl (by kernel_rfl) (by kernel_rfl) (by kernel_rfl) (fun _ _ _ h => h) (Or.inl ⟨by rfl, ?_⟩) (by assumption) ?_; (focus (intro w' hSw; (try dsimp only at hSw); go_simp; (try with_reducible rfl))); (try simp only [Act.put, List.setIfInBounds_toArray, List.set_cons_zero, List.set_cons_succ]))
        (refine wpAnyH_take (i := 13) (oi := { dst := some 29, op := Go.Op.move (Go.Operand.tmp 2), type := 3, pos := "l11_source.go:37", after := #[{ on := 7, ground := Go.Ground.guard }], guard := some (7, true) }) (v := (.int .i64 c)) rfl (by kernel_rfl) (by kernel_rfl) (by kernel_rfl) (fun _ _ _ h => h) (Or.inl ⟨by rfl, ?_⟩) (by assumption) ?_; (focus (intro w' hSw; (try dsimp only at hSw); go_simp; (try with_reducible rfl))); (try simp only [Act.put, List.setIfInBounds_toArray, List.set_cons_zero, List.set_cons_succ]))
        (refine wpAnyH_take (i := 14) (oi := { dst := some 30, op := Go.Op.binOp Go.BinOp.gtr 3 (Go.Operand.tmp 28) (Go.Operand.tmp 29) 3, type := 4, pos := "l11_source.go:37", after := #[{ on := 12, ground := Go.Ground.data }, { on := 13, ground := Go.Ground.data }, { on := 7, ground := Go.Ground.guard }], guard := some (7, true) }) (v := (.bool true)) rfl (by kernel_rfl) (by kernel_rfl) (by kernel_rfl) (fun _ _ _ h => h) (Or.inl ⟨by rfl, ?_⟩) (by assumption) ?_; (focus (intro w' hSw; (try dsimp only at hSw); go_simp; (try with_reducible rfl))); (try simp only [Act.put, List.setIfInBounds_toArray, List.set_cons_zero, List.set_cons_succ]))
        (refine wpAnyH_take (i := 15) (oi := { dst := some 31, op := Go.Op.pick (Go.Operand.tmp 23) (Go.Operand.tmp 30) (Go.Operand.const (Go.Value.bool false)), type := 4, pos := "l11_source.go:37", after := #[{ on := 7, ground := Go.Ground.data }, { on := 14, ground := Go.Ground.data }], guard := none }) (v := (.bool true)) rfl (by kernel_rfl) (by kernel_rfl) (by kernel_rfl) (fun _ _ _ h => h) (Or.inl ⟨by rfl, ?_⟩) (by assumption) ?_; (focus (intro w' hSw; (try dsimp only at hSw); go_simp; (try with_reducible rfl))); (try simp only [Act.put, List.setIfInBounds_toArray, List.set_cons_zero, List.set_cons_succ]))
        refine wpAnyH_done (by kernel_rfl) ?_ _
        have HO2 := Lib.hid (HO.out.below hb7)
        have e2 := (hb7.cell (p := ⟨bb, off + k * 2, none⟩) hbr).trans e0
        have e3 := (hb7.cell (p := ⟨bb, off + k * 2 + 1, none⟩) hbr).trans e1
        clear e0 e1 hb7 HO
        have HSA : Hid (OutHd W0 (w7.alloc (.cells #[.int .i64 n, .int .i64 hu] 82)) (.slice (some ⟨gg, 0, none⟩) zs.length cc) zs) := Lib.hid (HO2.out.alloc _)
        have HLt : Hid (Row (w7.alloc (.cells #[.int .i64 n, .int .i64 hu] 82)) (.slice (some ⟨w7.heap.size, 0, none⟩) 1 1) 1 (hdC ⟨n, hu⟩)) := Lib.hid (row_litHd (Hb.new w7 ⟨n, hu⟩))
        clear HO2
        obtain ⟨tt, htt⟩ : ∃ tt : Hd, tt = ⟨n, hu⟩ := ⟨_, rfl⟩
        rw [← htt] at HLt HZ2
        have hco := hdC_one tt
        have HTC : Hid (hdC tt = [.int .i64 n, .int .i64 hu]) := Lib.hid (by rw [htt]; rfl)
        go_wp2_with (at_builtin; refine wpList_append_own _ rfl _ _ 27 rfl W0.heap.size 82 i0 (.agg #[.int .i64 0, .int .i64 0]) 2 16 Try.underlying27 hi hz0 hz1 hz2 rfl (by decide) _ zs.length (hdF zs) rfl HSA.out.own ⟨w7.heap.size, 0, none⟩ 1 1 (hdC tt) rfl rfl (row_news HLt.out) hco (by unfold maxLen; omega) (by omega) HSA.out.bel.size ?_; intro v' w4 hown' hgrow _; obtain ⟨zs5, hz5⟩ : ∃ z, z = zs ++ [tt] := ⟨_, rfl⟩; obtain ⟨g5, c5, rfl, hs5⟩ := HSA.out.app hz5 hown' hgrow; have HS5 := Lib.hid hs5; have HZ5 := Lib.hid hz5; clear hown' hgrow hs5 hz5)
        go_roundw
        case rel => exact ⟨k + 1, g5, c5, by omega, by go_num, zs5, HZ5.out.trans HZ2.out, rfl, HS5⟩
        case measure => (simp [RowKit.intOf]; omega)
    · obtain rfl : k = h.length := by omega
      have hfin : zs = keepH ⟨t, z, q⟩ c h := by rw [hzs, List.take_of_length_le (Nat.le_refl _)]
      have HF := Lib.hid hfin
      clear hfin hzs
      have c5_W_0 := W_r.out.at 0 (v := .int .i64 t) rfl
      have c5_W_1 := W_r.out.at 1 (v := .int .i64 z) rfl
      have c5_W_2 := W_r.out.at 2 (v := .slice a q.length cap) rfl
      go_wp2_with fail
      go_ret
      rw [← HF.out]
      exact ⟨_, rfl, ownz_base HO.out.own HB0.out.size, HBr.out⟩
set_option maxRecDepth 100000 in
set_option maxHeartbeats 4000000 in
theorem l11With_any (v hv : Value) (s : So) (v2 : Value) (l : Sw) (w : World) (hrow : Row w v s.w.q.length (s.w.q.map Value.string)) (hhr : Row w hv s.h.length (hdF s.h)) (h2 : Row w v2 l.q.length (l.q.map Value.string)) (ht : 0 ≤ l.t ∧ l.t ≤ 65535) (hs : ∀ x ∈ s.h, serB x.n = true) (hl : s.h.length ≤ 1000) :
    Calls Try.prog 49 #[.agg #[.int .i64 s.w.t, .int .i64 s.w.z, v, .int .i64 s.c, .int .i64 s.u, hv], .agg #[.int .i64 l.t, .int .i64 l.z, v2]] w fun e w' => ∃ v', e = .returned (.agg #[.int .i64 l.t, .int .i64 l.z, v2, .int .i64 s.c, .int .i64 s.u, v']) ∧ w'.ownsRow w.heap.size 82 2 v' (keepH l s.c s.h).length (hdF (keepH l s.c s.h)) ∧ Below w.heap.size w w' := by
  obtain ⟨⟨t, z, q⟩, c, u, h⟩ := s
  dsimp only at hrow hhr ⊢
  obtain ⟨a, cap, rfl, hc1, hm1, -⟩ := row_open hrow
  obtain ⟨b, caph, rfl, hc2, hm2, -⟩ := hd_open hhr
  unfold maxLen at hm1 hm2
  have HP := Lib.hid hrow
  have HH := Lib.hid hhr
  clear hrow hhr
  obtain ⟨t2, z2, q2⟩ := l
  dsimp only at h2 ht hs hl ⊢
  obtain ⟨a2, cap2, rfl, hc3, hm3, -⟩ := row_open h2
  unfold maxLen at hm3
  have HP2 := Lib.hid h2
  have HS := Lib.hid hs
  have HT := Lib.hid ht
  clear h2 hs ht
  obtain ⟨W0, R_T, R_N, R_A, hW0, hR_T, hR_N, hR_A, hX_T, hX_N, hX_A, hB0⟩ := entry3 w #[.int .i64 t, .int .i64 z, .slice a q.length cap, .int .i64 c, .int .i64 u, .slice b h.length caph] #[.int .i64 t2, .int .i64 z2, .slice a2 q2.length cap2] #[.int .i64 0, .int .i64 0, .slice none 0 0, .int .i64 0, .int .i64 0, .slice none 0 0] 29 26 29
  have HW0 := Lib.hid hW0
  have HB0 := Lib.hid hB0
  have HR_T := Lib.hid hR_T
  have HX_T := Lib.hid hX_T
  have HR_N := Lib.hid hR_N
  have HX_N := Lib.hid hX_N
  have HR_A := Lib.hid hR_A
  have HX_A := Lib.hid hX_A
  clear hW0 hB0 hR_T hX_T hR_N hX_N hR_A hX_A
  have c6_T_0 := HX_T.out.at 0 (v := .int .i64 t) rfl
  have c6_T_1 := HX_T.out.at 1 (v := .int .i64 z) rfl
  have c6_T_2 := HX_T.out.at 2 (v := .slice a q.length cap) rfl
  have c6_T_3 := HX_T.out.at 3 (v := .int .i64 c) rfl
  have c6_T_4 := HX_T.out.at 4 (v := .int .i64 u) rfl
  have c6_T_5 := HX_T.out.at 5 (v := .slice b h.length caph) rfl
  have c7_N_0 := HX_N.out.at 0 (v := .int .i64 t2) rfl
  have c7_N_1 := HX_N.out.at 1 (v := .int .i64 z2) rfl
  have c7_N_2 := HX_N.out.at 2 (v := .slice a2 q2.length cap2) rfl
  have c8_A_0 := HX_A.out.at 0 (v := .int .i64 0) rfl
  have c8_A_1 := HX_A.out.at 1 (v := .int .i64 0) rfl
  have c8_A_2 := HX_A.out.at 2 (v := .slice none 0 0) rfl
  have c8_A_3 := HX_A.out.at 3 (v := .int .i64 0) rfl
  have c8_A_4 := HX_A.out.at 4 (v := .int .i64 0) rfl
  have c8_A_5 := HX_A.out.at 5 (v := .slice none 0 0) rfl
  have HHo := Lib.hid (fun (W1 : World) (hr : Row W1 (.slice a2 q2.length cap2) q2.length (q2.map Value.string)) (hh : Row W1 (.slice b h.length caph) h.length (hdF h)) => l11Holds_any (.slice a2 q2.length cap2) (.slice b h.length caph) ⟨t2, z2, q2⟩ h c W1 hr hh HT.out HS.out hl)
  generalize keepH ⟨t2, z2, q2⟩ c h = kp at HHo ⊢
  have HK4 := Lib.hid (fun (w' : World) (hb : Below W0.heap.size W0 w') => (show w'.cell? ⟨R_T, 0, none⟩ = some (.int .i64 t) ∧ w'.cell? ⟨R_T, 1, none⟩ = some (.int .i64 z) ∧ w'.cell? ⟨R_T, 2, none⟩ = some (.slice a q.length cap) ∧ w'.cell? ⟨R_T, 3, none⟩ = some (.int .i64 c) ∧ w'.cell? ⟨R_T, 4, none⟩ = some (.int .i64 u) ∧ w'.cell? ⟨R_T, 5, none⟩ = some (.slice b h.length caph) ∧ w'.cell? ⟨R_N, 0, none⟩ = some (.int .i64 t2) ∧ w'.cell? ⟨R_N, 1, none⟩ = some (.int .i64 z2) ∧ w'.cell? ⟨R_N, 2, none⟩ = some (.slice a2 q2.length cap2) ∧ Below w.heap.size w w' from ⟨(hb.cell (p := ⟨R_T, 0, none⟩) HX_T.out.lt).trans (HX_T.out.at 0 (v := .int .i64 t) rfl), (hb.cell (p := ⟨R_T, 1, none⟩) HX_T.out.lt).trans (HX_T.out.at 1 (v := .int .i64 z) rfl), (hb.cell (p := ⟨R_T, 2, none⟩) HX_T.out.lt).trans (HX_T.out.at 2 (v := .slice a q.length cap) rfl), (hb.cell (p := ⟨R_T, 3, none⟩) HX_T.out.lt).trans (HX_T.out.at 3 (v := .int .i64 c) rfl), (hb.cell (p := ⟨R_T, 4, none⟩) HX_T.out.lt).trans (HX_T.out.at 4 (v := .int .i64 u) rfl), (hb.cell (p := ⟨R_T, 5, none⟩) HX_T.out.lt).trans (HX_T.out.at 5 (v := .slice b h.length caph) rfl), (hb.cell (p := ⟨R_N, 0, none⟩) HX_N.out.lt).trans (HX_N.out.at 0 (v := .int .i64 t2) rfl), (hb.cell (p := ⟨R_N, 1, none⟩) HX_N.out.lt).trans (HX_N.out.at 1 (v := .int .i64 z2) rfl), (hb.cell (p := ⟨R_N, 2, none⟩) HX_N.out.lt).trans (HX_N.out.at 2 (v := .slice a2 q2.length cap2) rfl), HB0.out.trans (hb.mono HB0.out.size)⟩))
  have HA4_A := Lib.hid (fun (w' : World) (hb : Below W0.heap.size W0 w') => HX_A.out.below hb HX_A.out.lt)
  have HK4_0 := Lib.hid (fun (w' : World) (y0_0 y0_1 y0_2 y0_3 y0_4 y0_5 : Value) (hb : Below W0.heap.size W0 w') => (show (((((((w'.setCell ⟨R_A, 0, none⟩ (y0_0)).setCell ⟨R_A, 1, none⟩ (y0_1)).setCell ⟨R_A, 2, none⟩ (y0_2)).setCell ⟨R_A, 3, none⟩ (y0_3)).setCell ⟨R_A, 4, none⟩ (y0_4)).setCell ⟨R_A, 5, none⟩ (y0_5))).cell? ⟨R_T, 0, none⟩ = some (.int .i64 t) ∧ (((((((w'.setCell ⟨R_A, 0, none⟩ (y0_0)).setCell ⟨R_A, 1, none⟩ (y0_1)).setCell ⟨R_A, 2, none⟩ (y0_2)).setCell ⟨R_A, 3, none⟩ (y0_3)).setCell ⟨R_A, 4, none⟩ (y0_4)).setCell ⟨R_A, 5, none⟩ (y0_5))).cell? ⟨R_T, 1, none⟩ = some (.int .i64 z) ∧ (((((((w'.setCell ⟨R_A, 0, none⟩ (y0_0)).setCell ⟨R_A, 1, none⟩ (y0_1)).setCell ⟨R_A, 2, none⟩ (y0_2)).setCell ⟨R_A, 3, none⟩ (y0_3)).setCell ⟨R_A, 4, none⟩ (y0_4)).setCell ⟨R_A, 5, none⟩ (y0_5))).cell? ⟨R_T, 2, none⟩ = some (.slice a q.length cap) ∧ (((((((w'.setCell ⟨R_A, 0, none⟩ (y0_0)).setCell ⟨R_A, 1, none⟩ (y0_1)).setCell ⟨R_A, 2, none⟩ (y0_2)).setCell ⟨R_A, 3, none⟩ (y0_3)).setCell ⟨R_A, 4, none⟩ (y0_4)).setCell ⟨R_A, 5, none⟩ (y0_5))).cell? ⟨R_T, 3, none⟩ = some (.int .i64 c) ∧ (((((((w'.setCell ⟨R_A, 0, none⟩ (y0_0)).setCell ⟨R_A, 1, none⟩ (y0_1)).setCell ⟨R_A, 2, none⟩ (y0_2)).setCell ⟨R_A, 3, none⟩ (y0_3)).setCell ⟨R_A, 4, none⟩ (y0_4)).setCell ⟨R_A, 5, none⟩ (y0_5))).cell? ⟨R_T, 4, none⟩ = some (.int .i64 u) ∧ (((((((w'.setCell ⟨R_A, 0, none⟩ (y0_0)).setCell ⟨R_A, 1, none⟩ (y0_1)).setCell ⟨R_A, 2, none⟩ (y0_2)).setCell ⟨R_A, 3, none⟩ (y0_3)).setCell ⟨R_A, 4, none⟩ (y0_4)).setCell ⟨R_A, 5, none⟩ (y0_5))).cell? ⟨R_T, 5, none⟩ = some (.slice b h.length caph) ∧ (((((((w'.setCell ⟨R_A, 0, none⟩ (y0_0)).setCell ⟨R_A, 1, none⟩ (y0_1)).setCell ⟨R_A, 2, none⟩ (y0_2)).setCell ⟨R_A, 3, none⟩ (y0_3)).setCell ⟨R_A, 4, none⟩ (y0_4)).setCell ⟨R_A, 5, none⟩ (y0_5))).cell? ⟨R_N, 0, none⟩ = some (.int .i64 t2) ∧ (((((((w'.setCell ⟨R_A, 0, none⟩ (y0_0)).setCell ⟨R_A, 1, none⟩ (y0_1)).setCell ⟨R_A, 2, none⟩ (y0_2)).setCell ⟨R_A, 3, none⟩ (y0_3)).setCell ⟨R_A, 4, none⟩ (y0_4)).setCell ⟨R_A, 5, none⟩ (y0_5))).cell? ⟨R_N, 1, none⟩ = some (.int .i64 z2) ∧ (((((((w'.setCell ⟨R_A, 0, none⟩ (y0_0)).setCell ⟨R_A, 1, none⟩ (y0_1)).setCell ⟨R_A, 2, none⟩ (y0_2)).setCell ⟨R_A, 3, none⟩ (y0_3)).setCell ⟨R_A, 4, none⟩ (y0_4)).setCell ⟨R_A, 5, none⟩ (y0_5))).cell? ⟨R_N, 2, none⟩ = some (.slice a2 q2.length cap2) ∧ Below w.heap.size w (((((((w'.setCell ⟨R_A, 0, none⟩ (y0_0)).setCell ⟨R_A, 1, none⟩ (y0_1)).setCell ⟨R_A, 2, none⟩ (y0_2)).setCell ⟨R_A, 3, none⟩ (y0_3)).setCell ⟨R_A, 4, none⟩ (y0_4)).setCell ⟨R_A, 5, none⟩ (y0_5))) by
    obtain ⟨z0, z1, z2, z3, z4, z5, z6, z7, z8, z9⟩ := HK4.out w' hb
    obtain ⟨_, q1⟩ := (HA4_A.out w' hb).store6 y0_0 y0_1 y0_2 y0_3 y0_4 y0_5
    exact ⟨q1.cell z0 (by intro e; have e2 : R_T = R_A := Option.some.inj e; have h1 := HR_T.out; have h2 := HR_A.out; omega), q1.cell z1 (by intro e; have e2 : R_T = R_A := Option.some.inj e; have h1 := HR_T.out; have h2 := HR_A.out; omega), q1.cell z2 (by intro e; have e2 : R_T = R_A := Option.some.inj e; have h1 := HR_T.out; have h2 := HR_A.out; omega), q1.cell z3 (by intro e; have e2 : R_T = R_A := Option.some.inj e; have h1 := HR_T.out; have h2 := HR_A.out; omega), q1.cell z4 (by intro e; have e2 : R_T = R_A := Option.some.inj e; have h1 := HR_T.out; have h2 := HR_A.out; omega), q1.cell z5 (by intro e; have e2 : R_T = R_A := Option.some.inj e; have h1 := HR_T.out; have h2 := HR_A.out; omega), q1.cell z6 (by intro e; have e2 : R_N = R_A := Option.some.inj e; have h1 := HR_N.out; have h2 := HR_A.out; omega), q1.cell z7 (by intro e; have e2 : R_N = R_A := Option.some.inj e; have h1 := HR_N.out; have h2 := HR_A.out; omega), q1.cell z8 (by intro e; have e2 : R_N = R_A := Option.some.inj e; have h1 := HR_N.out; have h2 := HR_A.out; omega), z9.grown q1 z9.size (fun k hk => by have e2 : R_A = k := Option.some.inj hk; have := HR_A.out; omega)⟩))
  go_enter Try.func49, Try.ntmps49
  go_upto_region 1 with fail
  rw [← HW0.out, ← HR_A.out, ← HR_N.out, ← HR_T.out]
  go_region_held3 (fun w' => w'.cell? ⟨R_T, 0, none⟩ = some (.int .i64 t) ∧ w'.cell? ⟨R_T, 1, none⟩ = some (.int .i64 z) ∧ w'.cell? ⟨R_T, 2, none⟩ = some (.slice a q.length cap) ∧ w'.cell? ⟨R_T, 3, none⟩ = some (.int .i64 c) ∧ w'.cell? ⟨R_T, 4, none⟩ = some (.int .i64 u) ∧ w'.cell? ⟨R_T, 5, none⟩ = some (.slice b h.length caph) ∧ w'.cell? ⟨R_N, 0, none⟩ = some (.int .i64 t2) ∧ w'.cell? ⟨R_N, 1, none⟩ = some (.int .i64 z2) ∧ w'.cell? ⟨R_N, 2, none⟩ = some (.slice a2 q2.length cap2) ∧ Below w.heap.size w w')
    ((first | (with_reducible refine HK4_0.out _ _ _ _ _ _ _ ?_; (repeat (first | with_reducible assumption | with_reducible exact Below.refl _ _ | with_reducible refine Below.drew ?_ | with_reducible refine below_alloc' ?_)); done) | (with_reducible refine HK4.out _ ?_; (repeat (first | with_reducible assumption | with_reducible exact Below.refl _ _ | with_reducible refine Below.drew ?_ | with_reducible refine below_alloc' ?_)); done)))
    (first
      | (go_at_call 99; refine (HHo.out _ (HP2.out.below (HB0.out.trans ((by repeat (first | with_reducible assumption | with_reducible exact Below.refl _ _ | with_reducible refine Below.drew ?_ | with_reducible refine below_alloc' ?_) : Below W0.heap.size W0 _).mono HB0.out.size)) (Nat.le_refl _)) (HH.out.below (HB0.out.trans ((by repeat (first | with_reducible assumption | with_reducible exact Below.refl _ _ | with_reducible refine Below.drew ?_ | with_reducible refine below_alloc' ?_) : Below W0.heap.size W0 _).mono HB0.out.size)) (Nat.le_refl _))).mono ?_; rintro e w7 ⟨v_k, rfl, o_k, l7⟩; obtain ⟨a_k, c_k, rfl, _, _⟩ := ownz_slice o_k; have ho7 := ownz_base o_k (below_size' (by repeat (first | with_reducible assumption | with_reducible exact Below.refl _ _ | with_reducible refine Below.drew ?_ | with_reducible refine below_alloc' ?_) : Below W0.heap.size W0 _)); have hb7 := below_call7 (by repeat (first | with_reducible assumption | with_reducible exact Below.refl _ _ | with_reducible refine Below.drew ?_ | with_reducible refine below_alloc' ?_) : Below W0.heap.size W0 _) l7; clear l7; have h7A := HA4_A.out w7 hb7; have yA0 := h7A.at 0 (v := .int .i64 0) rfl; have fA0 := h7A.free 0; have yA1 := h7A.at 1 (v := .int .i64 0) rfl; have fA1 := h7A.free 1; have yA2 := h7A.at 2 (v := .slice none 0 0) rfl; have fA2 := h7A.free 2; have yA3 := h7A.at 3 (v := .int .i64 0) rfl; have fA3 := h7A.free 3; have yA4 := h7A.at 4 (v := .int .i64 0) rfl; have fA4 := h7A.free 4; have yA5 := h7A.at 5 (v := .slice none 0 0) rfl; have fA5 := h7A.free 5; ))
  all_goals go_wp2_with fail
  all_goals
    obtain ⟨p1, q1⟩ := h7A.store6 (.int .i64 t2) (.int .i64 z2) (.slice a2 q2.length cap2) (.int .i64 c) (.int .i64 u) (.slice a_k kp.length c_k)
    refine bodyPost_ret (results_bx rfl isSo _ _ R_A rfl rfl p1) rfl ⟨_, rfl, ?_, (HB0.out.trans (hb7.mono HB0.out.size)).grown q1 (HB0.out.trans (hb7.mono HB0.out.size)).size (fun k hk => by have e2 : R_A = k := Option.some.inj hk; have := HR_A.out; omega)⟩
    refine ownz_base (ho7.kept q1 ?_) HB0.out.size
    cases hv : (Value.slice a_k kp.length c_k).ownBlock with
    | none => exact .inl rfl
    | some k => exact .inr (fun e => by have e3 : k = R_A := Option.some.inj e; have := (ho7.lt k hv).1; have := HX_A.out.lt; omega)
end Go.Proofs.Ytlendmiolhgecaa
