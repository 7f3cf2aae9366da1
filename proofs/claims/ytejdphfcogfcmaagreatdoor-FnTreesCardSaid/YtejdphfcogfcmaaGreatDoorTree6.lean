/-
  Trees: the specification's texts of trees.
-/
import Derived.Test.YtejdphfcogfcmaaGreatDoorTree4
import Derived.Test.YtejdphfcogfcmaaGreatDoorTreeText
import Derived.Test.YtejdphfcogfcmaaGreatDoorRdN
namespace Go.Proofs.YtejdphfcogfcmaaGreatDoor
open Go.RowKit Go.Lib Go.Joins
set_option linter.unusedVariables false

theorem txt_of6 {st : ByteArray} {l : List UInt8} (h : st.data.toList = l) : st = ⟨l.toArray⟩ := by
  apply ByteArray.ext
  apply Array.toList_inj.1
  simpa using h
theorem numS_list6 (n : Int) : (numS n).data.toList = Lib.itoa n := by simp [numS]
theorem tail_take_one {p : List Int} (h : 2 ≤ p.length) : (p.take 2).tail = [par6 p 1] := by
  match p, h with
  | a :: b :: l, _ => rfl
theorem tail_take {p : List Int} {k : Nat} (h2 : 2 ≤ k) (hk : k < p.length) : (p.take (k + 1)).tail = (p.take k).tail ++ [par6 p k] := by
  match p, hk with
  | a :: l, hk =>
    obtain ⟨j, rfl⟩ : ∃ j, k = j + 1 := ⟨k - 1, by omega⟩
    have hj : j < l.length := by simpa using hk
    show (l.take (j + 1)) = l.take j ++ [par6 (a :: l) (j + 1)]
    rw [List.take_succ_eq_append_getElem hj, par6_at (by simpa using hj)]
    rfl
theorem tail_ne {p : List Int} {k : Nat} (h2 : 2 ≤ k) (hk : k ≤ p.length) : (p.take k).tail ≠ [] := by
  intro e
  have := congrArg List.length e
  rw [List.length_tail, List.length_take, List.length_nil] at this
  omega
set_option maxRecDepth 100000 in
set_option maxHeartbeats 2000000 in
theorem l6Text_any (v : Value) (p : List Int) (w : World) (hrow : Row w v p.length (p.map (Value.int .i64))) (hok : trOk p = true) :
    Calls Tryz.prog 26 #[.agg #[v]] w fun e w' => e = .returned (.string (treeB p)) ∧ Below w.heap.size w w' := by
  obtain ⟨h2, h8, _, hu⟩ := trOk_parts hok
  obtain ⟨W, hW⟩ : ∃ W, W = w.alloc (.cells #[v] 26) := ⟨_, rfl⟩
  have HT : Hid (Tr W w.heap.size v p) := Lib.hid (by rw [hW]; exact Tr.new hrow)
  have HB : Hid (Below w.heap.size w W) := Lib.hid (by rw [hW]; exact (Below.refl w.heap.size w).alloc (Nat.le_refl _) _)
  have HW := Lib.hid hW
  obtain ⟨a, cap, rfl, hc1, hm1, _⟩ := row_open hrow
  unfold maxLen at hm1
  have hx := HT.out.cell
  have HBd := Lib.hid (fun (k : Nat) (h1 : 1 ≤ k) (hk : k < p.length) => (show 0 ≤ par6 p k ∧ par6 p k ≤ 9 by have := hu k h1 hk; omega))
  obtain ⟨R, hR⟩ : ∃ R, R = w.heap.size := ⟨_, rfl⟩
  rw [← hR] at HT hx
  have HR := Lib.hid hR
  clear hW hrow hR hok hu
  have HTl := Lib.hid (fun (k : Nat) (h2 : 2 ≤ k) (hk : k < p.length) => tail_take (p := p) h2 hk)
  have HNe := Lib.hid (fun (k : Nat) (h2 : 2 ≤ k) (hk : k ≤ p.length) => tail_ne (p := p) h2 hk)
  have HE1 : Hid (jn6 (p.take 2).tail = Lib.itoa (par6 p 1)) := Lib.hid (by rw [tail_take_one h2]; rfl)
  obtain ⟨n, hN⟩ : ∃ n, n = p.length := ⟨_, rfl⟩
  have HEnd : Hid (∀ st : ByteArray, st.data.toList = jn6 (p.take n).tail → st = treeB p) := Lib.hid (fun st h => by
    rw [List.take_of_length_le (by rw [hN]; exact Nat.le_refl _)] at h
    exact txt_of6 h)
  rw [← hN] at hc1 HT HW hx h2 h8 HBd HTl HNe ⊢
  have HN := Lib.hid hN
  clear hN
  obtain ⟨b, off, rfl, hc⟩ := HT.out.get (k := 1) (by rw [← HN.out]; omega)
  obtain ⟨b0, b1⟩ := HBd.out 1 (by omega) (by omega)
  generalize par6 p 1 = y at hc b0 b1 HE1
  have HSt : Hid ((numS y).size ≤ 6 ∧ (numS y).data.toList = jn6 (p.take 2).tail) := Lib.hid ⟨numS_size b0 (by omega), by rw [HE1.out, numS_list6]⟩
  have HNum := Lib.hid (fun W => numS_any y b0 (by omega) W)
  generalize numS y = s0 at HNum HSt
  clear HE1
  go_enter Tryz.func26, Tryz.ntmps26
  go_upto_region 1 with fail
  rw [← HW.out, ← HR.out]
  go_wp2_with fail
  refine (HNum.out _).mono ?_
  rintro e W2 ⟨rfl, q2, hq2⟩
  have HB2 : Hid (Below W.heap.size W W2) := Lib.hid (by rw [hq2]; exact bdrew _ _)
  clear hq2 hx hc HNum
  have hx := (HT.out.below HB2.out).cell
  go_wp2_with fail
  go_loopw [3, 4] (fun s i wr => ∃ (k : Nat) (st : ByteArray), 2 ≤ k ∧ k ≤ n ∧ i = .int .i64 k ∧ s = .string st ∧ Hid (st.size ≤ 7 * k ∧ st.data.toList = jn6 (p.take k).tail) ∧ Hid (Below W.heap.size W wr)) (fun _ i _ => n - (RowKit.intOf i).toNat)
  case atStart => exact ⟨2, s0, Nat.le_refl _, by omega, rfl, rfl, Lib.hid ⟨by have := HSt.out.1; omega, HSt.out.2⟩, HB2⟩
  case round =>
    clear HSt HB2 hx
    obtain ⟨k, st, hk2, hk, rfl, rfl, HS, HBr⟩ := hrel
    have HTr := Lib.hid (HT.out.below HBr.out)
    have hx := HTr.out.cell
    by_cases hkn : k < n
    · obtain ⟨b2, off2, e2, hck⟩ := HTr.out.get (k := k) (by rw [← HN.out]; exact hkn)
      injection e2 with e2
      injection e2 with e2 e3 _
      subst e2; subst e3
      obtain ⟨z0, z1⟩ := HBd.out k (by omega) hkn
      have HT2 := Lib.hid (HTl.out k hk2 hkn)
      have hne := HNe.out k hk2 hk
      generalize par6 p k = z at hck z0 z1 HT2
      have hz6 := numS_size z0 (by omega)
      obtain ⟨s1, hs1, ha1⟩ := add_two st ⟨#[32]⟩ (7 * k + 1) (by have := HS.out.1; show _ + 1 ≤ _; omega)
      obtain ⟨s2, hs2, ha2⟩ := add_two s1 (numS z) (7 * k + 7) (by have := hs1.1; omega)
      have HS2 : Hid (s2.size ≤ 7 * (k + 1) ∧ s2.data.toList = jn6 (p.take (k + 1)).tail) := Lib.hid ⟨by have := hs2.1; omega, by
        rw [HT2.out, jn6_snoc, if_neg hne, hs2.2, hs1.2, HS.out.2, numS_list6]⟩
      have HNum := Lib.hid (fun W => numS_any z z0 (by omega) W)
      generalize numS z = sz at HNum ha2
      clear hs1 hs2 hz6 hne HS HT2
      go_wp2_with fail
      refine (HNum.out _).mono ?_
      rintro e w3 ⟨rfl, q3, hq3⟩
      have HB3 : Hid (Below W.heap.size W w3) := Lib.hid (by rw [hq3]; exact HBr.out.trans ((bdrew _ _).mono HBr.out.size))
      clear hq3 hck hx HNum
      have hx := (HT.out.below HB3.out).cell
      go_wp2_with fail
      go_roundw
      case rel => exact ⟨k + 1, s2, by omega, by omega, by go_num, rfl, HS2, HB3⟩
      case measure => (simp [RowKit.intOf]; omega)
    · obtain rfl : k = n := by omega
      have HE := Lib.hid (HEnd.out st HS.out.2)
      go_wp2_with fail
      go_ret
      exact ⟨ret_str HE.out, HB.out.trans (HBr.out.mono HB.out.size)⟩
set_option maxHeartbeats 1000000 in
theorem specTreeText_any (v : Value) (p : List Int) (w : World) (hrow : Row w v p.length (p.map (Value.int .i64))) :
    Calls Tryz.prog 8 #[.agg #[v]] w fun e w' => e = .returned (.tuple #[.string (ttV p), .bool (trOk p)]) ∧ Below w.heap.size w w' := by
  obtain ⟨W, hW⟩ : ∃ W, W = w.alloc (.cells #[v] 26) := ⟨_, rfl⟩
  have HT : Hid (Tr W w.heap.size v p) := Lib.hid (by rw [hW]; exact Tr.new hrow)
  have HB : Hid (Below w.heap.size w W) := Lib.hid (by rw [hW]; exact (Below.refl w.heap.size w).alloc (Nat.le_refl _) _)
  have HW := Lib.hid hW
  have HG := Lib.hid (l6Good_any v p W HT.out.row)
  have HX := Lib.hid (fun (h : trOk p = true) (W1 : World) hr => l6Text_any v p W1 hr h)
  have HV1 := Lib.hid (@ttV_yes p)
  have HV2 := Lib.hid (@ttV_no p)
  have hx := HT.out.cell
  obtain ⟨R, hR⟩ : ∃ R, R = w.heap.size := ⟨_, rfl⟩
  rw [← hR] at HT hx
  have HR := Lib.hid hR
  clear hW hrow hR
  generalize ttV p = tv at HV1 HV2 ⊢
  generalize treeB p = tb at HX HV1
  generalize trOk p = ok at HG HX HV1 HV2 ⊢
  cases ok with
  | false =>
    have HE := Lib.hid (HV2.out rfl)
    clear HX HV1 HV2
    go_enter Tryz.func8, Tryz.ntmps8
    go_upto_region 1 with fail
    rw [← HW.out, ← HR.out]
    go_wp2_with fail
    refine HG.out.mono ?_
    rintro e W2 ⟨rfl, l2⟩
    have HB2 := Lib.hid (HB.out.trans (l2.mono HB.out.size))
    clear l2
    go_wp2_with fail
    go_ret2
    exact ⟨by rw [HE.out]; rfl, HB2.out⟩
  | true =>
    have HE := Lib.hid (HV1.out rfl)
    have HX2 := Lib.hid (HX.out rfl)
    clear HX HV1 HV2
    go_enter Tryz.func8, Tryz.ntmps8
    go_upto_region 1 with fail
    rw [← HW.out, ← HR.out]
    go_wp2_with fail
    refine HG.out.mono ?_
    rintro e W2 ⟨rfl, l2⟩
    have HB2 := Lib.hid (HB.out.trans (l2.mono HB.out.size))
    have HT2 := Lib.hid (HT.out.below l2)
    clear l2 hx
    have hx := HT2.out.cell
    go_wp2_with fail
    refine (HX2.out _ HT2.out.row).mono ?_
    rintro e W3 ⟨rfl, l3⟩
    have HB3 := Lib.hid (HB2.out.trans (l3.mono HB2.out.size))
    clear l3
    go_wp2_with fail
    go_ret2
    exact ⟨by rw [HE.out]; rfl, HB3.out⟩
end Go.Proofs.YtejdphfcogfcmaaGreatDoor
