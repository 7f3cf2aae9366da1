/-
  Packets: check, octets, digits and texts of the specification.
-/
import Derived.Test.YtncjplcefdeckaaDoorPkt
import Derived.Laws.Concat
namespace Go.Proofs.YtncjplcefdeckaaDoor
open Go.RowKit Go.Lib
set_option linter.unusedVariables false

theorem below_app4 {B : Nat} {w wr w1 : World} {o : Obj} {e : TypeId} {z n : Nat} {v : Value} {xs : List Value} (hb : Below B w wr) (hB : B ≤ wr.heap.size) (ho : wr.ownsRow B e z v n xs) (hg : (wr.alloc o).grownBy w1 v.ownBlock) : Below B w w1 :=
  (hb.alloc hB o).grown hg (by simp; omega) (fun k hk => (ho.lt k hk).1)
theorem wS_succ {xs : List Int} {k : Nat} {u : Int} (hk : k < xs.length) (hu : u = xs[k]) : wS xs (k + 1) = wS xs k + ((k : Int) + 1) * u := by
  show wS xs k + ((k : Int) + 1) * xs.getD k 0 = _
  rw [List.getD_eq_getElem?_getD, List.getElem?_eq_getElem hk, hu]; rfl

set_option maxHeartbeats 400000 in
theorem l4Check_any (v : Value) (xs : List Int) (w : World) (hrow : Row w v xs.length (xs.map (Value.int .i64))) (hb : ∀ x ∈ xs, 0 ≤ x ∧ x ≤ 255) (hl : xs.length ≤ 1000) :
    Calls Tryd.prog 59 #[v] w fun e w' => e = .returned (.int .i64 (ckI xs)) ∧ w = w' := by
  obtain ⟨a, cap, rfl, hc1, hc2, hcell⟩ := row_open hrow
  unfold maxLen at hc2
  have HC := Lib.hid hcell
  have HB := Lib.hid hb
  clear hcell hrow hb
  obtain ⟨n, hN⟩ : ∃ n, n = xs.length := ⟨_, rfl⟩
  rw [← hN] at hc1 hl ⊢
  have HN := Lib.hid hN
  clear hN
  go_enter Tryd.func59, Tryd.ntmps59
  go_wp2_with fail
  go_loop [3, 4] (fun s i => ∃ (k : Nat) (c : Int), k ≤ n ∧ i = .int .i64 k ∧ s = .int .i64 c ∧ 0 ≤ c ∧ c ≤ 255000 * (k : Int) ∧ Hid (wS xs k = c)) (fun _ i => n - (intOf i).toNat)
  case atStart => exact ⟨0, 0, Nat.zero_le _, rfl, rfl, Int.le_refl _, by omega, Lib.hid rfl⟩
  case round =>
    obtain ⟨k, c, hk, rfl, rfl, c0, c1, HS⟩ := hrel
    by_cases hkn : k < n
    · have hks : k < xs.length := by rw [← HN.out]; exact hkn
      obtain ⟨b, off, rfl, hb, hc⟩ := HC.out k hks
      obtain ⟨x0, x1⟩ := HB.out xs[k] (List.getElem_mem hks)
      obtain ⟨u, hu⟩ : ∃ u, u = xs[k] := ⟨_, rfl⟩
      rw [← hu] at hc x0 x1
      have HT : Hid (wS xs (k + 1) = c + ((k : Int) + 1) * u) := Lib.hid (by rw [wS_succ hks hu, HS.out])
      have p0 : 0 ≤ ((k : Int) + 1) * u := Int.mul_nonneg (by omega) x0
      have p1 : ((k : Int) + 1) * u ≤ 1000 * 255 := Int.mul_le_mul (by omega) x1 x0 (by omega)
      clear hu
      go_wp2_with fail
      go_round
      case rel => exact ⟨k + 1, c + ((k : Int) + 1) * u, by omega, by go_num, rfl, by omega, by omega, HT⟩
      case measure => simp [intOf]; omega
    · obtain rfl : k = n := by omega
      go_wp2_with fail
      go_ret
      exact ⟨ret_int (by unfold ckI; rw [← HN.out, HS.out]), rfl⟩
/-- The octets but for the check, as far as they are laid. -/
def bodT (k n t l : Int) (d : ByteArray) (j : Nat) : List Int := [k, n / 256, n % 256, t / 256, t % 256, l / 256, l % 256, (d.size : Int)] ++ (datI d).take j
theorem bodT_succ {k n t l : Int} {d : ByteArray} {j : Nat} (hj : j < d.size) : bodT k n t l d (j + 1) = bodT k n t l d j ++ [(d[j].toNat : Int)] := by
  unfold bodT; rw [datI_take hj, List.append_assoc]
theorem bodT_all (k n t l : Int) (d : ByteArray) : bodT k n t l d d.size = bodyI k n t l d := by
  unfold bodT bodyI; rw [List.take_of_length_le (by rw [datI_len]; exact Nat.le_refl _)]
theorem own_bod {W : World} {B j : Nat} {v : Value} {k n t l : Int} {d : ByteArray} {x : Int} (hj : j < d.size) (he : x = (d[j].toNat : Int)) (h : W.ownsRow B 3 1 v (8 + j + 1) ((bodT k n t l d j).map (Value.int .i64) ++ [.int .i64 x])) : W.ownsRow B 3 1 v (8 + (j + 1)) ((bodT k n t l d (j + 1)).map (Value.int .i64)) := by
  subst he
  rw [bodT_succ hj, List.map_append, List.map_singleton]
  exact h

set_option maxHeartbeats 1000000 in
theorem l4Octets_any (k n t l : Int) (d : ByteArray) (w : World) (hp : pktOk k n t l d = true) :
    Calls Tryd.prog 39 #[pv k n t l d] w fun e w' => ∃ v', e = .returned v' ∧ w'.ownsRow w.heap.size 3 1 v' (d.size + 10) ((octI k n t l d).map (Value.int .i64)) ∧ Below w.heap.size w w' := by
  obtain ⟨i0, hi, hz0, hz1, hz2⟩ := info_parts infoInt
  have HP := Lib.hid hp
  obtain ⟨⟨k0, k1⟩, ⟨n0, n1⟩, ⟨t0, t1⟩, ⟨l0, l1⟩, _, _, hd, _⟩ := pktOk_bd hp
  clear hp
  unfold pv
  go_enter Tryd.func39, Tryd.ntmps39
  go_wp2_with fail
  obtain ⟨W1, hW1⟩ : ∃ W1, W1 = w.alloc (.cells #[.int .i64 k, .int .i64 n, .int .i64 t, .int .i64 l, .string d] 25) := ⟨_, rfl⟩
  have hc4 : W1.cell? ⟨w.heap.size, 4, none⟩ = some (.string d) := by rw [hW1]; exact World.cell?_alloc_new _ _ _ _
  have hsz1 : W1.heap.size = w.heap.size + 1 := by rw [hW1]; simp
  have HB1 : Hid (Below w.heap.size w W1) := Lib.hid (by rw [hW1]; exact (Below.refl _ _).alloc (Nat.le_refl _) _)
  rw [← hW1]
  clear hW1
  go_loopw [3, 4] (fun o i wr => ∃ j : Nat, j ≤ d.size ∧ i = .int .i64 j ∧ Hid (wr.ownsRow W1.heap.size 3 1 o (8 + j) ((bodT k n t l d j).map (Value.int .i64))) ∧ Hid (Below W1.heap.size W1 wr)) (fun _ i _ => d.size - (intOf i).toNat)
  case atStart =>
    refine ⟨0, Nat.zero_le _, rfl, Lib.hid ?_, Lib.hid ((Below.refl _ _).alloc (Nat.le_refl _) _)⟩
    have := own_made W1 (([k, n / 256, n % 256, t / 256, t % 256, l / 256, l % 256, (d.size : Int)] : List Int).map (Value.int .i64)) 3 8 rfl (by unfold maxLen; omega)
    rw [hsz1] at this ⊢
    exact this
  case round =>
    obtain ⟨j, hj, rfl, HO, HB⟩ := hrel
    have hsz := HB.out.size
    have hcd : wr.cell? ⟨w.heap.size, 4, none⟩ = some (.string d) := (HB.out.cell (p := ⟨w.heap.size, 4, none⟩) (by show w.heap.size < _; omega)).trans hc4
    have hww : w.heap.size < wr.heap.size := by omega
    by_cases hjs : j < d.size
    · have u0 : d[j].toNat < 256 := d[j].toNat_lt
      go_wp2_with (at_builtin; refine wpList_append_own _ rfl _ _ 33 rfl W1.heap.size 3 i0 (.int .i64 0) 1 8 Tryd.underlying33 hi hz0 hz1 hz2 rfl (by decide) _ _ _ rfl (HO.out.alloc _) ⟨wr.heap.size, 0, none⟩ 1 1 [.int .i64 (d[j].toNat : Int)] rfl rfl (cell_one_new _ _ _) (by intro u hu; simp at hu; subst hu; rfl) (by unfold maxLen; omega) (by omega) (by simp; omega) ?_; intro v' w2 hown' hgrow _)
      have HB2 := Lib.hid (below_app4 HB.out hsz HO.out hgrow)
      have HO2 := Lib.hid (own_bod hjs rfl hown')
      clear hown' hgrow
      go_roundw
      case rel => exact ⟨j + 1, by omega, by go_num, HO2, HB2⟩
      case measure => (first | (simp [intOf]; done) | (simp [intOf]; omega))
    · obtain rfl : j = d.size := by omega
      obtain ⟨bs, hbs⟩ : ∃ bs, bs = bodyI k n t l d := ⟨_, rfl⟩
      have hbl : bs.length = 8 + d.size := by rw [hbs, bodyI_len]; omega
      have HO3 : Hid (wr.ownsRow W1.heap.size 3 1 _ bs.length (bs.map (Value.int .i64))) := Lib.hid (by rw [hbl, hbs, ← bodT_all]; exact HO.out)
      have HC := Lib.hid (l4Check_any _ bs wr (row_own HO3.out) (by rw [hbs]; exact bodyI_bd HP.out) (by omega))
      obtain ⟨c0, c1⟩ := ckI_bd bs
      have HE : Hid (octI k n t l d = bs ++ [ckI bs / 256, ckI bs % 256]) := Lib.hid (by unfold octI; rw [hbs])
      generalize ckI bs = c at HC HE c0 c1
      clear hbs HO
      go_wp2_with (first | (go_at_call 59; refine HC.out.mono ?_; rintro e w' ⟨rfl, rfl⟩) | (at_builtin; refine wpList_append_own _ rfl _ _ 33 rfl W1.heap.size 3 i0 (.int .i64 0) 1 8 Tryd.underlying33 hi hz0 hz1 hz2 rfl (by decide) _ _ _ rfl (HO3.out.alloc _) ⟨wr.heap.size, 0, none⟩ 2 2 [.int .i64 (c / 256), .int .i64 (c % 256)] rfl rfl (row_news (row_made wr [.int .i64 (c / 256), .int .i64 (c % 256)] 3 2 rfl (by unfold maxLen; omega))) (by intro u hu; simp at hu; rcases hu with rfl | rfl <;> rfl) (by unfold maxLen; omega) (by omega) (by simp; omega) ?_; intro v' w2 hown' hgrow _))
      have HB2 := Lib.hid (below_app4 HB.out hsz HO3.out hgrow)
      have HO2 := Lib.hid hown'
      clear hown' hgrow
      go_ret
      refine ⟨_, rfl, ?_, HB1.out.trans (HB2.out.mono (by omega))⟩
      have h2 := own_base HO2.out (show w.heap.size ≤ W1.heap.size by omega)
      rw [hbl] at h2
      rw [HE.out, List.map_append, show d.size + 10 = 8 + d.size + 2 by omega]
      exact h2
theorem dig_eq {k : Nat} (h16 : k < 16) (h : k < (⟨#[48, 49, 50, 51, 52, 53, 54, 55, 56, 57, 65, 66, 67, 68, 69, 70]⟩ : ByteArray).size) : (⟨#[48, 49, 50, 51, 52, 53, 54, 55, 56, 57, 65, 66, 67, 68, 69, 70]⟩ : ByteArray)[k] = hexC (k : Int) := by
  have : ∀ i : Fin 16, (⟨#[48, 49, 50, 51, 52, 53, 54, 55, 56, 57, 65, 66, 67, 68, 69, 70]⟩ : ByteArray)[i.val]'(i.isLt) = hexC ((i.val : Nat) : Int) := by decide +kernel
  exact this ⟨k, h16⟩
theorem dig_hit {k : Nat} {b : UInt8} (h16 : k < 16) {h : k < (⟨#[48, 49, 50, 51, 52, 53, 54, 55, 56, 57, 65, 66, 67, 68, 69, 70]⟩ : ByteArray).size} (e : ((((⟨#[48, 49, 50, 51, 52, 53, 54, 55, 56, 57, 65, 66, 67, 68, 69, 70]⟩ : ByteArray)[k]'h).toNat : Int) == (b.toNat : Int)) = true) : (k : Int) = hexV b := by
  rw [dig_eq h16 h] at e
  have h2 : hexC (k : Int) = b := by
    apply UInt8.toNat_inj.1
    have h3 : ((hexC (k : Int)).toNat : Int) = (b.toNat : Int) := by simpa using e
    omega
  rw [← h2, hexV_hexC (by omega) (by omega)]
theorem dig_miss {k : Nat} {b : UInt8} (h16 : k < 16) (HA : ∀ j : Nat, j < k → hexC (j : Int) ≠ b) {h : k < (⟨#[48, 49, 50, 51, 52, 53, 54, 55, 56, 57, 65, 66, 67, 68, 69, 70]⟩ : ByteArray).size} (e : ((((⟨#[48, 49, 50, 51, 52, 53, 54, 55, 56, 57, 65, 66, 67, 68, 69, 70]⟩ : ByteArray)[k]'h).toNat : Int) == (b.toNat : Int)) = false) : ∀ j : Nat, j < k + 1 → hexC (j : Int) ≠ b := by
  intro j hj
  by_cases hjk : j < k
  · exact HA j hjk
  · obtain rfl : j = k := by omega
    intro e2
    rw [dig_eq h16 h, e2] at e
    simp at e
theorem dig_none {b : UInt8} (HA : ∀ j : Nat, j < 16 → hexC (j : Int) ≠ b) : hexV b = -1 := by
  have h1 := hexV_bd b
  by_cases h0 : 0 ≤ hexV b
  · exfalso
    obtain ⟨u, hu⟩ : ∃ u : Nat, hexV b = u := ⟨(hexV b).toNat, by omega⟩
    have := hexC_hexV h0
    rw [hu] at this
    exact HA u (by omega) this
  · omega
set_option maxHeartbeats 1000000 in
theorem l4Digit_any (b : UInt8) (w : World) :
    Calls Tryd.prog 58 #[.int .u8 b.toNat] w fun e w' => e = .returned (.int .i64 (hexV b)) ∧ w = w' := by
  have hb : b.toNat < 256 := b.toNat_lt
  go_enter Tryd.func58, Tryd.ntmps58
  go_wp2_with fail
  go_loop [3] (fun i => ∃ k : Nat, k ≤ 16 ∧ i = .int .i64 k ∧ Hid (∀ j : Nat, j < k → hexC j ≠ b)) (fun i => 16 - (intOf i).toNat)
  case atStart => exact ⟨0, Nat.zero_le _, rfl, Lib.hid (by simp)⟩
  case round =>
    obtain ⟨k, hk, rfl, HA⟩ := hrel
    by_cases hks : k < 16
    · go_wp2_with fail
      · go_ret
        exact ⟨ret_int (dig_hit hks (by assumption)), rfl⟩
      · go_round
        case rel => exact ⟨k + 1, by omega, by go_num, Lib.hid (dig_miss hks HA.out (by assumption))⟩
        case measure => simp [intOf]; omega
    · obtain rfl : k = 16 := by omega
      go_wp2_with fail
      go_ret
      exact ⟨ret_int (dig_none HA.out).symm, rfl⟩
end Go.Proofs.YtncjplcefdeckaaDoor
