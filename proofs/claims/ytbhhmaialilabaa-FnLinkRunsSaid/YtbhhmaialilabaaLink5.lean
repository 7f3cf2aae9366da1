/-
  Links: the specification's CountFates.
-/
import Derived.Test.YtbhhmaialilabaaLink2
namespace Go.Proofs.Ytbhhmaialilabaa
open Go.RowKit Go.Lib Go.Joins
set_option linter.unusedVariables false

theorem cntR_snoc (bs : List UInt8) (b : UInt8) (y : Nat) (hy : fateN b = (y : Int)) : y < 4 ∧ (cntR bs)[y]? = some ((cntL bs (y : Int) : Nat) : Int) ∧ cntR (bs ++ [b]) = (cntR bs).set y (((cntL bs (y : Int) : Nat) : Int) + 1) := by
  have h1 := (fateN_bd b).2
  have h4 : y < 4 := by omega
  refine ⟨h4, ?_, ?_⟩
  · unfold cntR
    match y, h4 with
    | 0, _ => rfl
    | 1, _ => rfl
    | 2, _ => rfl
    | 3, _ => rfl
  · unfold cntR
    rw [cntL_snoc, cntL_snoc, cntL_snoc, cntL_snoc, hy]
    match y, h4 with
    | 0, _ => simp
    | 1, _ => simp
    | 2, _ => simp
    | 3, _ => simp
theorem take_drop_snoc {s : ByteArray} {u j : Nat} (huj : u ≤ j) (hj : j < s.size) : (s.data.toList.take (j + 1)).drop u = (s.data.toList.take j).drop u ++ [s[j]] := by
  rw [bytes_take hj, List.drop_append_of_le_length (by rw [List.length_take]; simp; omega)]
theorem cntL_len (bs : List UInt8) (k : Int) : cntL bs k ≤ bs.length := List.length_filter_le _ _
theorem make_four (W : World) : (Instr.makeSlice 50 (.int .i64 4) (.int .i64 4)).run Try.prog W = .ok (.slice (some ⟨W.heap.size, 0, none⟩) 4 4) (W.alloc (.cells #[.int .i64 0, .int .i64 0, .int .i64 0, .int .i64 0] 3)) := by
  obtain ⟨i0, hi, hz0, hz1, hz2⟩ := info_parts infoInt
  have h := run_make (P := Try.prog) W 50 3 i0 (.int .i64 0) Try.underlying50 hi hz0 .i64 .i64 4 4 (by omega) (by omega) (by rw [hz2]; omega) (by omega)
  rw [hz1, show Int.toNat 4 = 4 from rfl, made_is 4 [Value.int .i64 0, .int .i64 0, .int .i64 0, .int .i64 0] rfl rfl] at h
  rw [h]
  rfl
set_option maxRecDepth 100000 in
set_option maxHeartbeats 4000000 in
theorem specCount_any (v : Value) (l : Lk) (w : World) (hrow : Row w v l.q.length (l.q.map Value.string)) (hf : l.f.size ≤ 1048576) :
    Calls Try.prog 40 #[.agg #[v, .string l.f, .int .i64 l.u]] w fun e w' => ∃ v', e = .returned (.tuple #[v', .bool (lkOk l)]) ∧ w'.ownsRow w.heap.size 3 1 v' (cntV l).length ((cntV l).map (Value.int .i64)) ∧ Below w.heap.size w w' := by
  obtain ⟨W, hW⟩ : ∃ W, W = w.alloc (.cells #[v, .string l.f, .int .i64 l.u] 26) := ⟨_, rfl⟩
  have HT : Hid (Lb W w.heap.size v l) := Lib.hid (by rw [hW]; exact Lb.new hrow)
  have HB : Hid (Below w.heap.size w W) := Lib.hid (by rw [hW]; exact (Below.refl w.heap.size w).alloc (Nat.le_refl _) _)
  have HW := Lib.hid hW
  have HG := Lib.hid (l7Good_any v l W HT.out.row hf)
  obtain ⟨x0, x1, x2⟩ := HT.out.cells
  obtain ⟨R, hR⟩ : ∃ R, R = w.heap.size := ⟨_, rfl⟩
  rw [← hR] at x0 x1 x2 HT
  have HR := Lib.hid hR
  clear hW hR hrow hf
  cases ok : lkOk l with
  | false =>
    have e1 : cntV l = [] := by unfold cntV; rw [ok]; rfl
    rw [ok] at HG
    rw [e1]
    clear ok e1
    go_enter Try.func40, Try.ntmps40
    go_upto_region 1 with fail
    rw [← HW.out, ← HR.out]
    go_wp2_with fail
    refine HG.out.mono ?_
    rintro e W2 ⟨rfl, l2⟩
    have HB2 := Lib.hid (HB.out.trans (l2.mono HB.out.size))
    clear l2
    go_wp2_with fail
    go_ret2
    exact ⟨_, rfl, own_base (World.ownsRow_made W2 #[] 0 (Nat.le_refl _) (Nat.zero_le _) rfl) HB2.out.size, HB2.out.alloc HB2.out.size _⟩
  | true =>
    rw [ok] at HG
    obtain ⟨_, h2, _, h40, u0, u1⟩ := lkOk_parts ok
    have e1 : cntV l = cntR (l.f.data.toList.drop l.u.toNat) := if_pos ok
    rw [e1]
    obtain ⟨u, hu⟩ : ∃ u : Nat, l.u = u := ⟨l.u.toNat, by omega⟩
    rw [hu] at x2 HW HG u1 ⊢
    rw [Int.toNat_natCast]
    have H2 := Lib.hid h2
    have HTt := Lib.hid HT.out
    clear ok e1 h2 u0 HT
    have hus : u ≤ l.f.size := by omega
    go_enter Try.func40, Try.ntmps40
    go_upto_region 1 with fail
    rw [← HW.out, ← HR.out]
    go_wp2_with fail
    refine HG.out.mono ?_
    rintro e W2 ⟨rfl, l2⟩
    have HB2 := Lib.hid (HB.out.trans (l2.mono HB.out.size))
    have HT2 := Lib.hid (HTt.out.below l2)
    clear l2 x0 x1 x2
    obtain ⟨x0, x1, x2⟩ := HT2.out.cells
    rw [hu] at x2
    have hmk : ∀ W : World, (Instr.makeSlice 50 (.int .i64 4) (.int .i64 4)).run Try.prog W = .ok (.slice (some ⟨W.heap.size, 0, none⟩) 4 4) (W.alloc (.cells #[.int .i64 0, .int .i64 0, .int .i64 0, .int .i64 0] 3)) := make_four
    have HO0 : Hid ((W2.alloc (.cells #[.int .i64 0, .int .i64 0, .int .i64 0, .int .i64 0] 3)).ownsRow W2.heap.size 3 1 (.slice (some ⟨W2.heap.size, 0, none⟩) 4 4) 4 ((cntR ((l.f.data.toList.take u).drop u)).map (Value.int .i64))) := Lib.hid (by
      have : (l.f.data.toList.take u).drop u = [] := List.drop_eq_nil_of_le (by rw [List.length_take]; omega)
      rw [this]
      exact own_made W2 [.int .i64 0, .int .i64 0, .int .i64 0, .int .i64 0] 3 4 rfl (by decide))
    have HL0 := Lib.hid ((Below.refl W2.heap.size W2).alloc (Nat.le_refl _) (.cells #[.int .i64 0, .int .i64 0, .int .i64 0, .int .i64 0] 3))
    obtain ⟨x0, x1, x2⟩ := (HT2.out.below HL0.out).cells
    rw [hu] at x2
    have HUs := Lib.hid hus
    have HU := Lib.hid hu
    obtain ⟨m, hM⟩ : ∃ m, m = l.f.size := ⟨_, rfl⟩
    have HM := Lib.hid hM
    have hum : u ≤ m := by omega
    have hm40 : m ≤ 40 := by omega
    clear hu hM
    go_wp2_with fail
    go_loopw [5] (fun i wr => ∃ j : Nat, u ≤ j ∧ j ≤ m ∧ i = .int .i64 j ∧ Hid (wr.ownsRow W2.heap.size 3 1 (.slice (some ⟨W2.heap.size, 0, none⟩) 4 4) 4 ((cntR ((l.f.data.toList.take j).drop u)).map (Value.int .i64))) ∧ Hid (Below W2.heap.size W2 wr)) (fun i _ => m - (RowKit.intOf i).toNat)
    case atStart => exact ⟨u, Nat.le_refl _, hum, rfl, HO0, HL0⟩
    case round =>
      clear HO0 HL0 x0 x1 x2
      obtain ⟨j, huj, hjm, rfl, HO, HL⟩ := hrel
      have HTr := Lib.hid (HT2.out.below HL.out)
      obtain ⟨x0, x1, x2⟩ := HTr.out.cells
      by_cases hj : j < m
      · have hjf : j < l.f.size := by rw [← HM.out]; exact hj
        have hjI : (j : Int) < (l.f.size : Int) := by omega
        have hfl := H2.out l.f[j] (by
          have : l.f[j] = l.f.data.toList[j]'(by simpa using hjf) := rfl
          rw [this]
          exact List.getElem_mem _)
        obtain ⟨y, hy⟩ : ∃ y : Nat, fateN l.f[j] = (y : Int) := ⟨(fateN l.f[j]).toNat, by omega⟩
        have hts := take_drop_snoc huj hjf
        obtain ⟨hy4, hat, hset⟩ := cntR_snoc ((l.f.data.toList.take j).drop u) l.f[j] y hy
        rw [← hts] at hset
        have hcl := cntL_len ((l.f.data.toList.take j).drop u) (y : Int)
        have hln : ((l.f.data.toList.take j).drop u).length ≤ 40 := by rw [List.length_drop, List.length_take]; omega
        have HSet := Lib.hid hset
        obtain ⟨⟨z, hz, hc⟩, fr, _, _⟩ := own_facts (j := y) HO.out hy4
        rw [List.getElem?_map, hat] at hz
        have hz2 := (Option.some.inj hz).symm
        subst hz2
        obtain ⟨b0, b1⟩ := byte_bd l.f[j]
        have HC := Lib.hid (fun (W1 : World) => l7Fate_any (l.f[j].toNat : Int) W1 b0 b1)
        rw [← fateN_eq, hy] at HC
        generalize cntL ((l.f.data.toList.take j).drop u) (y : Int) = cn at hc hcl HSet
        clear hz hat hset hts hfl hy b0 b1
        go_wp2_with fail
        refine (HC.out _).mono ?_
        rintro e w3 ⟨rfl, rfl⟩
        have y4 : (y : Int) < 4 := by omega
        go_wp2_with fail
        obtain ⟨s1, s2⟩ := own_set HO.out (j := y) (.int .i64 ((cn : Int) + 1))
        go_roundw
        case rel => exact ⟨j + 1, by omega, by omega, by go_num, Lib.hid (by rw [HSet.out, List.map_set]; exact s1), Lib.hid (HL.out.grown s2 HL.out.size (fun k hk => by have e2 : W2.heap.size = k := Option.some.inj hk; omega))⟩
        case measure => (simp [RowKit.intOf]; omega)
      · obtain rfl : j = m := by omega
        have hjI : ¬ (j : Int) < (l.f.size : Int) := by have := HM.out; omega
        have HO2 := HO.out
        rw [List.take_of_length_le (show l.f.data.toList.length ≤ j by rw [HM.out]; simp)] at HO2
        have HO3 := Lib.hid HO2
        clear HO2 HO
        go_wp2_with fail
        go_ret2
        exact ⟨_, rfl, own_base HO3.out HB2.out.size, HB2.out.trans (HL.out.mono HB2.out.size)⟩
end Go.Proofs.Ytbhhmaialilabaa
