/-
  Links: the program's CountFates.
-/
import Derived.Test.YtbhhmaialilabaaShelf
import Derived.Test.YtbhhmaialilabaaLink5
import Derived.Test.YtbhhmaialilabaaLinkI2
import Derived.Lib.ConvBytes
import Derived.Lib.AtoiErrMem
namespace Go.Proofs.Ytbhhmaialilabaa
open Go.RowKit Go.Lib Go.Joins
set_option linter.unusedVariables false

/-- The place of a letter among the four. -/
theorem index_four (b : UInt8) (h : 0 ≤ fateN b) : Lib.indexByte ((⟨#[107, 108, 100, 115]⟩ : ByteArray)).data.toList b = fateN b := by
  have hc : b = 107 ∨ b = 108 ∨ b = 100 ∨ b = 115 := by
    unfold fateN at h
    split at h
    · rename_i e; exact .inl e
    · split at h
      · rename_i e; exact .inr (.inl e)
      · split at h
        · rename_i e; exact .inr (.inr (.inl e))
        · split at h
          · rename_i e; exact .inr (.inr (.inr e))
          · omega
  rcases hc with rfl | rfl | rfl | rfl <;> decide
theorem byte_back (b : UInt8) : ((b.toNat : Int)).toNat.toUInt8 = b := by
  rw [Int.toNat_natCast]
  exact UInt8.ofNat_toNat
set_option maxRecDepth 100000 in
set_option maxHeartbeats 4000000 in
theorem implCount_any (v : Value) (l : Lk) (w : World) (hrow : Row w v l.q.length (l.q.map Value.string)) :
    Calls Try.prog 39 #[.agg #[v, .string l.f, .int .i64 l.u]] w fun e w' => ∃ v', e = .returned (.tuple #[v', .bool (lkOk l)]) ∧ w'.ownsRow w.heap.size 3 1 v' (cntV l).length ((cntV l).map (Value.int .i64)) ∧ Below w.heap.size w w' := by
  obtain ⟨W, hW⟩ : ∃ W, W = w.alloc (.cells #[v, .string l.f, .int .i64 l.u] 26) := ⟨_, rfl⟩
  have HT : Hid (Lb W w.heap.size v l) := Lib.hid (by rw [hW]; exact Lb.new hrow)
  have HB : Hid (Below w.heap.size w W) := Lib.hid (by rw [hW]; exact (Below.refl w.heap.size w).alloc (Nat.le_refl _) _)
  have HW := Lib.hid hW
  have HG := Lib.hid (implIsLink_any v l W HT.out.row)
  obtain ⟨x0, x1, x2⟩ := HT.out.cells
  obtain ⟨R, hR⟩ : ∃ R, R = w.heap.size := ⟨_, rfl⟩
  rw [← hR] at x0 x1 x2 HT
  have HR := Lib.hid hR
  clear hW hR hrow
  cases ok : lkOk l with
  | false =>
    have e1 : cntV l = [] := by unfold cntV; rw [ok]; rfl
    rw [ok] at HG
    rw [e1]
    clear ok e1
    go_enter Try.func39, Try.ntmps39
    go_upto_region 1 with fail
    rw [← HW.out, ← HR.out]
    go_wp2_with fail
    refine HG.out.mono ?_
    rintro e W2 ⟨rfl, l2⟩
    have HB2 := Lib.hid (HB.out.trans (l2.mono HB.out.size))
    clear l2
    go_wp2_with fail
    go_ret2
    exact ⟨_, rfl, own_base (World.ownsRow_made W2 #[] 0 (Nat.le_refl _) (Nat.zero_le _) rfl) HB2.out.size, HB2.out.alloc HB2.out.size _⟩
  | true =>
    rw [ok] at HG
    obtain ⟨_, h2, _, h40, u0, u1⟩ := lkOk_parts ok
    have e1 : cntV l = cntR (l.f.data.toList.drop l.u.toNat) := if_pos ok
    rw [e1]
    obtain ⟨u, hu⟩ : ∃ u : Nat, l.u = u := ⟨l.u.toNat, by omega⟩
    rw [hu] at x2 HW HG u1 ⊢
    rw [Int.toNat_natCast]
    obtain ⟨ys, hY⟩ : ∃ ys, ys = l.f.data.toList.drop u := ⟨_, rfl⟩
    rw [← hY]
    have HYs := Lib.hid hY
    clear hY
    have H2 := Lib.hid h2
    have HTt := Lib.hid HT.out
    clear ok e1 h2 u0 HT
    have hus : u ≤ l.f.size := by omega
    go_enter Try.func39, Try.ntmps39
    go_upto_region 1 with fail
    rw [← HW.out, ← HR.out]
    go_wp2_with fail
    refine HG.out.mono ?_
    rintro e W2 ⟨rfl, l2⟩
    have HB2 := Lib.hid (HB.out.trans (l2.mono HB.out.size))
    have HT2 := Lib.hid (HTt.out.below l2)
    clear l2 x0 x1 x2
    have hmk : ∀ W : World, (Instr.makeSlice 50 (.int .i64 4) (.int .i64 4)).run Try.prog W = .ok (.slice (some ⟨W.heap.size, 0, none⟩) 4 4) (W.alloc (.cells #[.int .i64 0, .int .i64 0, .int .i64 0, .int .i64 0] 3)) := make_four
    go_upto_region 4 with fail
    clear hmk
    obtain ⟨W3, hW3⟩ : ∃ W3, W3 = W2.alloc (.cells #[.int .i64 0, .int .i64 0, .int .i64 0, .int .i64 0] 3) := ⟨_, rfl⟩
    have l3 : Below W2.heap.size W2 W3 := by rw [hW3]; exact (Below.refl _ _).alloc (Nat.le_refl _) _
    have HO3 : Hid (W3.ownsRow W2.heap.size 3 1 (.slice (some ⟨W2.heap.size, 0, none⟩) 4 4) 4 ((cntR []).map (Value.int .i64))) := Lib.hid (by
      rw [hW3]
      exact own_made W2 [.int .i64 0, .int .i64 0, .int .i64 0, .int .i64 0] 3 4 rfl (by decide))
    have HT3 := Lib.hid (HT2.out.below l3)
    have HB3 := Lib.hid (HB2.out.trans (l3.mono HB2.out.size))
    have HBs := Lib.hid HB2.out.size
    rw [← hW3]
    obtain ⟨A, hA⟩ : ∃ A, A = W2.heap.size := ⟨_, rfl⟩
    have HAs : Hid (A < W3.heap.size) := Lib.hid (by rw [hA, hW3]; simp)
    rw [← hA] at HO3 HBs ⊢
    clear hW3 l3 hA HT2
    obtain ⟨x0, x1, x2⟩ := HT3.out.cells
    rw [hu] at x2
    have hcv : ∀ (y : ByteArray) (W : World), (convert 9 22 (.string y)).run Try.prog W = .ok (.slice (some ⟨W.heap.size, 0, none⟩) y.size (grownCap W y.size 0 5)) (Lib.bytesWorld W 5 y) := fun y W =>
      Lib.run_convert_string_bytes W 9 22 5 y Try.underlying9 Try.underlying22 Try.underlying5
    have hus1 : (u : Int) ≤ (l.f.size : Int) := by omega
    have hus0 : (0 : Int) ≤ (u : Int) := by omega
    go_wp2_with fail
    have hl4 : Below W3.heap.size W3 (Lib.bytesWorld W3 5 (l.f.extract u l.f.size)) := Lib.bytesWorld_below _ _ _
    have hyl : (l.f.extract u l.f.size).data.toList = l.f.data.toList.drop u := by
      simp [ByteArray.data_extract, List.take_of_length_le]
    obtain ⟨m, hM⟩ : ∃ m, m = l.f.size - u := ⟨_, rfl⟩
    have hys : (l.f.extract u l.f.size).size = m := by rw [hM]; simp
    have hcells : ∀ j (hj : j < (l.f.data.toList.drop u).length), (Lib.bytesWorld W3 5 (l.f.extract u l.f.size)).cell? ⟨W3.heap.size, j, none⟩ = some (.int .u8 (((l.f.data.toList.drop u)[j].toNat : Nat) : Int)) := fun j hj => by
      rw [Lib.bytesWorld_cell W3 5 (l.f.extract u l.f.size) j (by rw [hys, hM]; rw [List.length_drop] at hj; simpa using hj), hyl, List.getD_eq_getElem?_getD, List.getElem?_eq_getElem hj]
      rfl
    have hmem : ∀ b ∈ l.f.data.toList.drop u, 0 ≤ fateN b := fun b hb => H2.out b (List.mem_of_mem_drop hb)
    have hyn : (l.f.data.toList.drop u).length = m := by rw [hM, List.length_drop]; simp
    obtain ⟨W4, hW4⟩ : ∃ W4, W4 = Lib.bytesWorld W3 5 (l.f.extract u l.f.size) := ⟨_, rfl⟩
    rw [← hW4] at hl4 hcells ⊢
    rw [← hM]
    obtain ⟨X, hX⟩ : ∃ X, X = W3.heap.size := ⟨_, rfl⟩
    rw [← hX] at hcells ⊢
    rw [← HYs.out] at hmem hyn
    have hcells2 : ∀ j (hj : j < ys.length), W4.cell? ⟨X, j, none⟩ = some (.int .u8 ((ys[j].toNat : Nat) : Int)) := by
      rw [HYs.out]
      exact hcells
    have HXA : Hid (X ≠ A) := Lib.hid (by rw [hX]; have := HAs.out; omega)
    have HO4 := Lib.hid (own_below HO3.out hl4 (Nat.le_refl _))
    have HB4 := Lib.hid (HB3.out.trans (hl4.mono HB3.out.size))
    have HC4 := Lib.hid hcells2
    have HMem := Lib.hid hmem
    have HYn := Lib.hid hyn
    have hm40 : m ≤ 40 := by omega
    have HA0 : Hid (w.heap.size ≤ A) := HBs
    obtain ⟨gc, hgc⟩ : ∃ gc, gc = grownCap W3 m 0 5 := ⟨_, rfl⟩
    have hgc1 : m ≤ gc := by rw [hgc]; exact grownCap_ge W3 _ _ _
    have hgc2 : gc ≤ maxLen := by rw [hgc]; exact grownCap_le_maxLen W3 _ _ _ (by unfold maxLen; omega)
    unfold maxLen at hgc2
    rw [← hgc]
    clear hcells hcells2 hl4 hyl hys hmem hyn hW4 hX HO3 HB3 HT3 x0 x1 x2 hM hgc hcv hus0 hus1 H2
    generalize l.f.extract u l.f.size = y0
    clear HTt hu HB2 HBs HAs u1 hus h40
    go_loopw [19] (fun i wr => ∃ j : Nat, j ≤ m ∧ i = .int .i64 j ∧ Hid (wr.ownsRow A 3 1 (.slice (some ⟨A, 0, none⟩) 4 4) 4 ((cntR (ys.take j)).map (Value.int .i64))) ∧ Hid (W4.grownBy wr (some A))) (fun i _ => m - (RowKit.intOf i).toNat)
    case atStart => exact ⟨0, Nat.zero_le _, rfl, HO4, Lib.hid (World.grownBy.refl _ _)⟩
    case round =>
      obtain ⟨j, hjm, rfl, HO, HGr⟩ := hrel
      by_cases hj : j < m
      · have hjy : j < ys.length := by rw [HYn.out]; exact hj
        have hjI : (j : Int) < (m : Int) := by omega
        have hc0 := HGr.out.cell (HC4.out j hjy) (by intro e; exact HXA.out (Option.some.inj e))
        have hfl := HMem.out _ (List.getElem_mem hjy)
        obtain ⟨y, hy⟩ : ∃ y : Nat, fateN ys[j] = (y : Int) := ⟨(fateN ys[j]).toNat, by omega⟩
        have hts : ys.take (j + 1) = ys.take j ++ [ys[j]] := List.take_succ_eq_append_getElem hjy
        obtain ⟨hy4, hat, hset⟩ := cntR_snoc (ys.take j) ys[j] y hy
        rw [← hts] at hset
        have hcl := cntL_len (ys.take j) (y : Int)
        have hln : (ys.take j).length ≤ 40 := by rw [List.length_take]; omega
        have HSet := Lib.hid hset
        obtain ⟨⟨z, hz, hc⟩, fr, _, _⟩ := own_facts (j := y) HO.out hy4
        rw [List.getElem?_map, hat] at hz
        have hz2 := (Option.some.inj hz).symm
        subst hz2
        have HCi : Hid (∀ (W1 : World), Calls Try.prog 73 #[.string ⟨#[107, 108, 100, 115]⟩, .int .u8 ((ys[j].toNat : Nat) : Int)] W1 fun e w' => e = .returned (.int .i64 (y : Int)) ∧ w' = W1) := Lib.hid (fun W1 => by
          have h := Try.strings_IndexByte ⟨#[107, 108, 100, 115]⟩ ((ys[j].toNat : Nat) : Int) W1
          rw [byte_back, index_four _ hfl, hy] at h
          exact h)
        generalize cntL (ys.take j) (y : Int) = cn at hc hcl HSet
        generalize ((ys[j].toNat : Nat) : Int) = bn at hc0 HCi
        clear hz hat hset hts hfl hy
        have y4 : (y : Int) < 4 := by omega
        go_wp2_with fail
        refine (HCi.out _).mono ?_
        rintro e w3 ⟨rfl, rfl⟩
        go_wp2_with fail
        obtain ⟨s1, s2⟩ := own_set HO.out (j := y) (.int .i64 ((cn : Int) + 1))
        go_roundw
        case rel => exact ⟨j + 1, by omega, by go_num, Lib.hid (by rw [HSet.out, List.map_set]; exact s1), Lib.hid (grown_trans HGr.out s2)⟩
        case measure => (simp [RowKit.intOf]; omega)
      · obtain rfl : j = m := by omega
        have HO2 := HO.out
        rw [List.take_of_length_le (show ys.length ≤ j by rw [HYn.out]; exact Nat.le_refl _)] at HO2
        have HO3 := Lib.hid HO2
        clear HO2 HO
        go_wp2_with fail
        go_ret2
        exact ⟨_, rfl, by exact own_base HO3.out HA0.out, HB4.out.grown HGr.out HB4.out.size (fun k hk => by have e2 : A = k := Option.some.inj hk; have := HA0.out; omega)⟩
end Go.Proofs.Ytbhhmaialilabaa
