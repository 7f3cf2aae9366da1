/-
  Packets: 'OctetsOf' of both packages.
-/
import Derived.Test.YtncjplcefdeckaaDoorPktI
import Derived.Test.YtncjplcefdeckaaDoorPkt4
namespace Go.Proofs.YtncjplcefdeckaaDoor
open Go.RowKit Go.Lib Go.Joins
set_option linter.unusedVariables false

/-- Two octets for each number. -/
def prL (ys : List Int) : List Int := ys.flatMap (fun y => [y / 256, y % 256])
theorem prL_snoc (ys : List Int) (y : Int) : prL (ys ++ [y]) = prL ys ++ [y / 256, y % 256] := by simp [prL]
theorem prL_len : ∀ ys : List Int, (prL ys).length = 2 * ys.length
  | [] => rfl
  | y :: ys => by
    have ih := prL_len ys
    simp only [prL, List.flatMap_cons, List.length_append, List.length_cons, List.length_nil] at ih ⊢
    omega
theorem prL_take {ys : List Int} {j : Nat} (h : j < ys.length) : prL (ys.take (j + 1)) = prL (ys.take j) ++ [ys[j] / 256, ys[j] % 256] := by
  rw [List.take_succ_eq_append_getElem h, prL_snoc]
theorem own_pairs {W : World} {B m j : Nat} {v : Value} {xs ys : List Int} {y : Int} (h : j < ys.length) (he : y = ys[j]) (hm : m = xs.length + 2 * j)
    (ho : W.ownsRow B 3 1 v (m + 2) ((xs ++ prL (ys.take j)).map (Value.int .i64) ++ [.int .i64 (y / 256), .int .i64 (y % 256)])) :
    W.ownsRow B 3 1 v (xs.length + 2 * (j + 1)) ((xs ++ prL (ys.take (j + 1))).map (Value.int .i64)) := by
  subst he
  rw [prL_take h, ← List.append_assoc, List.map_append, show xs.length + 2 * (j + 1) = m + 2 by omega]
  exact ho
set_option maxHeartbeats 1000000 in
theorem appendPairs_any (B : Nat) (v u : Value) (xs ys : List Int) (w : World) (ho : w.ownsRow B 3 1 v xs.length (xs.map (Value.int .i64))) (hB : B ≤ w.heap.size) (hrow : Row w u ys.length (ys.map (Value.int .i64)))
    (hsep : ∀ k, v.ownBlock = some k → ∀ a n c, u = .slice (some a) n c → a.block ≠ k) (hx : xs.length ≤ 1000) (hy : ys.length ≤ 1000) (hb : ∀ y ∈ ys, 0 ≤ y ∧ y ≤ 65535) :
    Calls Tryd.prog 38 #[v, u] w fun e w' => ∃ v', e = .returned v' ∧ w'.ownsRow B 3 1 v' (xs ++ prL ys).length ((xs ++ prL ys).map (Value.int .i64)) ∧ Below B w w' := by
  obtain ⟨i0, hi, hz0, hz1, hz2⟩ := info_parts infoInt
  obtain ⟨a, cap, rfl, hc1, hc2, hcell⟩ := row_open hrow
  unfold maxLen at hc2
  have HC := Lib.hid hcell
  have HBd := Lib.hid hb
  have HO0 := Lib.hid ho
  have hlen : (xs ++ prL ys).length = xs.length + 2 * ys.length := by rw [List.length_append, prL_len]
  rw [hlen]
  clear hcell hrow hb ho hlen
  obtain ⟨n, hN⟩ : ∃ n, n = ys.length := ⟨_, rfl⟩
  rw [← hN] at hc1 hy ⊢
  have HN := Lib.hid hN
  obtain ⟨m0, hM⟩ : ∃ m, m = xs.length := ⟨_, rfl⟩
  rw [← hM] at hx ⊢
  have HM := Lib.hid hM
  have HSep := Lib.hid hsep
  clear hN hM hsep
  go_enter Tryd.func38, Tryd.ntmps38
  go_wp2_with fail
  go_loopw [0, 9] (fun o i wr => ∃ j : Nat, j ≤ n ∧ i = .int .i64 j ∧ Hid (wr.ownsRow B 3 1 o (m0 + 2 * j) ((xs ++ prL (ys.take j)).map (Value.int .i64))) ∧ Hid (Below B w wr) ∧ Hid (∀ i (h : i < ys.length), ∃ b off, a = some ⟨b, off, none⟩ ∧ wr.cell? ⟨b, off + i, none⟩ = some (.int .i64 ys[i]) ∧ ∀ k, o.ownBlock = some k → b ≠ k)) (fun _ i _ => n - (intOf i).toNat)
  case atStart =>
    refine ⟨0, Nat.zero_le _, rfl, Lib.hid ?_, Lib.hid (Below.refl _ _), Lib.hid ?_⟩
    · have := HO0.out
      rw [HM.out]
      simpa [prL] using this
    · intro i h
      obtain ⟨b, off, rfl, hb, hc⟩ := HC.out i h
      exact ⟨b, off, rfl, hc, fun k hk => HSep.out k hk _ _ _ rfl⟩
  case round =>
    obtain ⟨j, hj, rfl, HO, HBw, HCe⟩ := hrel
    have hsz := HBw.out.size
    by_cases hjn : j < n
    · have hjs : j < ys.length := by rw [← HN.out]; exact hjn
      obtain ⟨b, off, rfl, hc, hne⟩ := HCe.out j hjs
      obtain ⟨y0, y1⟩ := HBd.out ys[j] (List.getElem_mem hjs)
      obtain ⟨y, hy'⟩ : ∃ y, y = ys[j] := ⟨_, rfl⟩
      rw [← hy'] at hc y0 y1
      have HY := Lib.hid hy'
      have HX : Hid (y / 256 = y / 256) := Lib.hid rfl
      clear hy'
      go_wp2_with (at_builtin; refine wpList_append_own_at _ rfl _ _ 33 rfl B 3 i0 (.int .i64 0) 1 8 Tryd.underlying33 hi hz0 hz1 hz2 rfl (by decide) _ _ _ rfl (HO.out.alloc _) ⟨wr.heap.size, 0, none⟩ 2 2 [.int .i64 (y / 256), .int .i64 (y % 256)] rfl rfl (row_news (row_made wr [.int .i64 (y / 256), .int .i64 (y % 256)] 3 2 rfl (by unfold maxLen; omega))) (by intro u hu; simp at hu; rcases hu with rfl | rfl <;> rfl) (by unfold maxLen; omega) (by omega) (by simp; omega) ?_; intro v' w2 hown' hgrow _ hat)
      have HB2 := Lib.hid (below_app4 HBw.out (by omega) HO.out hgrow)
      have HO2 := Lib.hid (own_pairs hjs HY.out (by rw [HM.out]) hown')
      have HC2 : Hid (∀ i (h : i < ys.length), ∃ b2 off2, some (⟨b, off, none⟩ : Addr) = some ⟨b2, off2, none⟩ ∧ w2.cell? ⟨b2, off2 + i, none⟩ = some (.int .i64 ys[i]) ∧ ∀ k, v'.ownBlock = some k → b2 ≠ k) := Lib.hid (fun i h => by
        obtain ⟨b2, off2, e, hc2, hne2⟩ := HCe.out i h
        have hbl : b2 < wr.heap.size := World.block_lt_of_cell? wr ⟨b2, off2 + i, none⟩ hc2
        refine ⟨b2, off2, e, hgrow.cell ((World.cell?_alloc_old wr _ ⟨b2, off2 + i, none⟩ (Nat.ne_of_lt hbl)).trans hc2) (fun e2 => hne2 b2 e2.symm rfl), fun k hk => ?_⟩
        rcases hat with h2 | h2
        · exact hne2 k (h2.symm.trans hk)
        · have h3 : (wr.alloc (.cells #[.int .i64 (y / 256), .int .i64 (y % 256)] 3)).heap.size = k := Option.some.inj (h2.symm.trans hk)
          simp at h3
          omega)
      clear hown' hgrow hat
      go_roundw
      case rel => exact ⟨j + 1, by omega, by go_num, by rw [HM.out]; exact HO2, HB2, HC2⟩
      case measure => (first | (simp [intOf]; done) | (simp [intOf]; omega))
    · obtain rfl : j = n := by omega
      have HF : Hid (ys.take j = ys) := Lib.hid (by rw [HN.out, List.take_of_length_le (Nat.le_refl _)])
      have hO := HO.out
      rw [HF.out] at hO
      have HO3 := Lib.hid hO
      clear hO HO
      go_wp2_with fail
      go_ret
      exact ⟨_, rfl, HO3.out, HBw.out⟩

/-- The octets, or none. -/
def octV (k n t l : Int) (d : ByteArray) : List Int := if pktOk k n t l d = true then octI k n t l d else []
theorem octV_yes {k n t l : Int} {d : ByteArray} (h : pktOk k n t l d = true) : octV k n t l d = octI k n t l d := if_pos h
theorem octV_no {k n t l : Int} {d : ByteArray} (h : pktOk k n t l d = false) : octV k n t l d = [] := by unfold octV; rw [h]; rfl
theorem octV_len (k n t l : Int) (d : ByteArray) : (octV k n t l d).length ≤ 1048576 := by
  cases h : pktOk k n t l d with
  | false => rw [octV_no h]; exact Nat.zero_le _
  | true =>
    rw [octV_yes h, octI_len]
    have := (pktOk_bd h).2.2.2.2.2.2.1
    omega
set_option maxHeartbeats 1000000 in
theorem specOctets_any (k n t l : Int) (d : ByteArray) (w : World) (hd : d.size ≤ maxLen) :
    Calls Tryd.prog 16 #[pv k n t l d] w fun e w' => ∃ v', e = .returned (.tuple #[v', .bool (pktOk k n t l d)]) ∧
      w'.ownsRow w.heap.size 3 1 v' (octV k n t l d).length ((octV k n t l d).map (Value.int .i64)) ∧ Below w.heap.size w w' := by
  have HV := Lib.hid (fun w => l4Good_any k n t l d w hd)
  have HB0 := Lib.hid (((Below.refl w.heap.size w).alloc (Nat.le_refl _) (.cells #[.int .i64 k, .int .i64 n, .int .i64 t, .int .i64 l, .string d] 25)))
  have HP0 : Hid (Pb (w.alloc (.cells #[.int .i64 k, .int .i64 n, .int .i64 t, .int .i64 l, .string d] 25)) w.heap.size k n t l d) := Lib.hid (heap_alloc_new w _)
  cases hp : pktOk k n t l d with
  | false =>
    rw [hp] at HV
    have HO := Lib.hid (octV_no hp)
    clear hp
    unfold pv at HV ⊢
    go_enter Tryd.func16, Tryd.ntmps16
    go_wp2_with fail
    refine (HV.out _).mono ?_
    rintro e W1 ⟨rfl, lW⟩
    have HB1 := Lib.hid (HB0.out.trans (lW.mono HB0.out.size))
    go_wp2_with fail
    go_ret2
    refine ⟨_, rfl, ?_, HB1.out.alloc HB1.out.size _⟩
    rw [HO.out]
    exact World.ownsRow_made W1 #[] 0 HB1.out.size (Nat.zero_le _) rfl
  | true =>
    rw [hp] at HV
    have HO := Lib.hid (octV_yes hp)
    have HC := Lib.hid (fun w => l4Octets_any k n t l d w hp)
    clear hp
    unfold pv at HV HC ⊢
    go_enter Tryd.func16, Tryd.ntmps16
    go_wp2_with fail
    refine (HV.out _).mono ?_
    rintro e W1 ⟨rfl, lW⟩
    have HB1 := Lib.hid (HB0.out.trans (lW.mono HB0.out.size))
    have HP1 := Lib.hid (HP0.out.below lW HP0.out.lt)
    obtain ⟨c0, c1, c2, c3, c4⟩ := HP1.out.cells
    clear lW
    go_wp2_with fail
    refine (HC.out _).mono ?_
    rintro e W2 ⟨v', rfl, o2, l2⟩
    have HO2 := Lib.hid o2
    have HB2 := Lib.hid (HB1.out.trans (l2.mono HB1.out.size))
    clear o2 l2
    go_wp2_with fail
    go_ret2
    refine ⟨_, rfl, ?_, HB2.out⟩
    rw [HO.out, octI_len]
    exact own_base HO2.out HB1.out.size
theorem oct_prL (k n t l : Int) (d : ByteArray) : octI k n t l d = bodyI k n t l d ++ prL [ckI (bodyI k n t l d)] := by simp [octI, prL]
theorem head_prL (k n t l : Int) : [k] ++ prL [n, t, l] = [k, n / 256, n % 256, t / 256, t % 256, l / 256, l % 256] := by simp [prL]
theorem bodT_zero (k n t l : Int) (d : ByteArray) : bodT k n t l d 0 = [k, n / 256, n % 256, t / 256, t % 256, l / 256, l % 256] ++ [(d.size : Int)] := by simp [bodT]
theorem row_lone {W : World} {g : Nat} {a : Int} (h : W.heap[g]? = some (.cells #[.int .i64 a] 3 (0, 0))) : Row W (.slice (some ⟨g, 0, none⟩) 1 1) [a].length ([a].map (Value.int .i64)) := row_lit h
theorem cell_kept {W w2 : World} {B z n b i : Nat} {e : TypeId} {v x : Value} {xs : List Value} {o : Obj} (hc : W.cell? ⟨b, i, none⟩ = some x) (ho : W.ownsRow B e z v n xs) (hb : b < B) (hg : (W.alloc o).grownBy w2 v.ownBlock) : w2.cell? ⟨b, i, none⟩ = some x :=
  hg.cell ((World.cell?_alloc_old W o ⟨b, i, none⟩ (Nat.ne_of_lt (World.block_lt_of_cell? W ⟨b, i, none⟩ hc))).trans hc) (fun e2 => by have h1 := (ho.lt b e2.symm).1; omega)
set_option maxHeartbeats 1000000 in
theorem implOctets_any (k n t l : Int) (d : ByteArray) (w : World) (hd : d.size ≤ maxLen) :
    Calls Tryd.prog 15 #[pv k n t l d] w fun e w' => ∃ v', e = .returned (.tuple #[v', .bool (pktOk k n t l d)]) ∧
      w'.ownsRow w.heap.size 3 1 v' (octV k n t l d).length ((octV k n t l d).map (Value.int .i64)) ∧ Below w.heap.size w w' := by
  obtain ⟨i0, hi, hz0, hz1, hz2⟩ := info_parts infoInt
  have HV := Lib.hid (fun w => implValid_any k n t l d w hd)
  have HB0 := Lib.hid (((Below.refl w.heap.size w).alloc (Nat.le_refl _) (.cells #[.int .i64 k, .int .i64 n, .int .i64 t, .int .i64 l, .string d] 25)))
  have HP0 : Hid (Pb (w.alloc (.cells #[.int .i64 k, .int .i64 n, .int .i64 t, .int .i64 l, .string d] 25)) w.heap.size k n t l d) := Lib.hid (heap_alloc_new w _)
  cases hp : pktOk k n t l d with
  | false =>
    rw [hp] at HV
    have HO := Lib.hid (octV_no hp)
    clear hp
    unfold pv at HV ⊢
    go_enter Tryd.func15, Tryd.ntmps15
    go_wp2_with fail
    refine (HV.out _).mono ?_
    rintro e W1 ⟨rfl, lW⟩
    have HB1 := Lib.hid (HB0.out.trans (lW.mono HB0.out.size))
    go_wp2_with fail
    go_ret2
    refine ⟨_, rfl, ?_, HB1.out.alloc HB1.out.size _⟩
    rw [HO.out]
    exact World.ownsRow_made W1 #[] 0 HB1.out.size (Nat.zero_le _) rfl
  | true =>
    rw [hp] at HV
    have HO := Lib.hid (octV_yes hp)
    have HPk := Lib.hid hp
    obtain ⟨⟨k0, k1⟩, ⟨n0, n1⟩, ⟨t0, t1⟩, ⟨l0, l1⟩, _, _, hd8, _⟩ := pktOk_bd hp
    clear hp
    unfold pv at HV ⊢
    go_enter Tryd.func15, Tryd.ntmps15
    go_wp2_with fail
    refine (HV.out _).mono ?_
    rintro e W1 ⟨rfl, lW⟩
    have HB1 := Lib.hid (HB0.out.trans (lW.mono HB0.out.size))
    have HP1 := Lib.hid (HP0.out.below lW HP0.out.lt)
    have hw1 := HP1.out.lt
    obtain ⟨c0, c1, c2, c3, c4⟩ := HP1.out.cells
    clear lW
    go_wp2_with fail
    refine (appendPairs_any W1.heap.size _ _ [k] [n, t, l] _ ((own_made W1 ([k].map (Value.int .i64)) 3 1 rfl (by unfold maxLen; omega)).alloc _) (by simp; omega) (row_three (heap_second W1 _ _)) ?_ (by simp) (by simp) ?_).mono ?_
    · intro q hq a m c e
      have e1 : W1.heap.size = q := Option.some.inj hq
      injection e with e2 e3 e4
      injection e2 with e2
      rw [← e2]
      show W1.heap.size + 1 ≠ q
      omega
    · intro y hy
      simp at hy
      omega
    rintro e W2 ⟨v1, rfl, o1, lA⟩
    rw [head_prL] at o1
    have HO1 : Hid (W2.ownsRow W1.heap.size 3 1 v1 7 (([k, n / 256, n % 256, t / 256, t % 256, l / 256, l % 256] : List Int).map (Value.int .i64))) := Lib.hid o1
    have hlA : Below W1.heap.size W1 W2 := (((Below.refl W1.heap.size W1).alloc (Nat.le_refl _) (.cells #[.int .i64 k] 3)).alloc (by simp) (.cells #[.int .i64 n, .int .i64 t, .int .i64 l] 3)).trans lA
    have HlA := Lib.hid hlA
    have c42 : W2.cell? ⟨w.heap.size, 4, none⟩ = some (.string d) := (hlA.cell (p := ⟨w.heap.size, 4, none⟩) hw1).trans c4
    have hsA := hlA.size
    clear o1 lA hlA c0 c1 c2 c3 c4
    go_wp2_with (at_builtin; refine wpList_append_own _ rfl _ _ 33 rfl W1.heap.size 3 i0 (.int .i64 0) 1 8 Tryd.underlying33 hi hz0 hz1 hz2 rfl (by decide) _ _ _ rfl (HO1.out.alloc _) ⟨W2.heap.size, 0, none⟩ 1 1 [.int .i64 (d.size : Int)] rfl rfl (cell_one_new _ _ _) (by intro u hu; simp at hu; subst hu; rfl) (by unfold maxLen; omega) (by omega) (by simp; omega) ?_; intro v' w2 hown' hgrow _; have c43 := cell_kept c42 HO1.out hw1 hgrow)
    have HB2 := Lib.hid (below_app4 HlA.out hsA HO1.out hgrow)
    have HO2 : Hid (w2.ownsRow W1.heap.size 3 1 v' (8 + 0) ((bodT k n t l d 0).map (Value.int .i64))) := Lib.hid (by rw [bodT_zero, List.map_append]; exact hown')
    clear hown' hgrow c42 HO1 HlA hsA
    go_loopw [4, 32] (fun o i wr => ∃ j : Nat, j ≤ d.size ∧ i = .int .i64 j ∧ Hid (wr.ownsRow W1.heap.size 3 1 o (8 + j) ((bodT k n t l d j).map (Value.int .i64))) ∧ Hid (Below W1.heap.size W1 wr) ∧ wr.cell? ⟨w.heap.size, 4, none⟩ = some (.string d)) (fun _ i _ => d.size - (intOf i).toNat)
    case atStart => exact ⟨0, Nat.zero_le _, rfl, HO2, HB2, c43⟩
    case round =>
      obtain ⟨j, hj, rfl, HOj, HBj, hcd⟩ := hrel
      have hsz := HBj.out.size
      by_cases hjs : j < d.size
      · have u0 : d[j].toNat < 256 := d[j].toNat_lt
        go_wp2_with (at_builtin; refine wpList_append_own _ rfl _ _ 33 rfl W1.heap.size 3 i0 (.int .i64 0) 1 8 Tryd.underlying33 hi hz0 hz1 hz2 rfl (by decide) _ _ _ rfl (HOj.out.alloc _) ⟨wr.heap.size, 0, none⟩ 1 1 [.int .i64 (d[j].toNat : Int)] rfl rfl (cell_one_new _ _ _) (by intro u hu; simp at hu; subst hu; rfl) (by unfold maxLen; omega) (by omega) (by simp; omega) ?_; intro v2 w3 hown' hgrow _)
        have HB3 := Lib.hid (below_app4 HBj.out hsz HOj.out hgrow)
        have HO3 := Lib.hid (own_bod hjs rfl hown')
        have c44 := cell_kept hcd HOj.out hw1 hgrow
        clear hown' hgrow
        go_roundw
        case rel => exact ⟨j + 1, by omega, by go_num, HO3, HB3, c44⟩
        case measure => (first | (simp [intOf]; done) | (simp [intOf]; omega))
      · obtain rfl : j = d.size := by omega
        obtain ⟨bs, hbs⟩ : ∃ bs, bs = bodyI k n t l d := ⟨_, rfl⟩
        have hbl : bs.length = 8 + d.size := by rw [hbs, bodyI_len]; omega
        have HO3 : Hid (wr.ownsRow W1.heap.size 3 1 _ bs.length (bs.map (Value.int .i64))) := Lib.hid (by rw [hbl, hbs, ← bodT_all]; exact HOj.out)
        have hck := ck4_yes (xs := bs) (by omega) (fun i hi _ => by
          rw [hbs] at hi
          have := bodyI_bd HPk.out _ (List.getElem_mem hi)
          simp only [hbs]
          exact this)
        have hcv : ck4V bs = ckI bs := if_pos hck
        have hcx := implCheck_any _ bs wr (row_own HO3.out)
        rw [hcv, hck] at hcx
        have HC := Lib.hid hcx
        obtain ⟨q0, q1⟩ := ckI_bd bs
        have HE : Hid (octI k n t l d = bs ++ prL [ckI bs]) := Lib.hid (by rw [oct_prL, hbs])
        generalize ckI bs = c at HC HE q0 q1
        clear hbs HOj hck hcv hcx
        go_wp2_with (go_at_call 18; refine HC.out.mono ?_; rintro e w' ⟨rfl, rfl⟩)
        refine (appendPairs_any W1.heap.size _ _ bs [c] _ (HO3.out.alloc _) (by simp; omega) (row_lone (heap_alloc_new wr _)) ?_ (by omega) (by simp) ?_).mono ?_
        · intro q hq a m c e
          have e1 := (HO3.out.lt q hq).2
          injection e with e2 e3 e4
          injection e2 with e2
          rw [← e2]
          show wr.heap.size ≠ q
          omega
        · intro y hy
          simp at hy
          omega
        rintro e w4 ⟨v4, rfl, o4, l4⟩
        have HB4 := Lib.hid (HBj.out.trans ((((Below.refl wr.heap.size wr).alloc (Nat.le_refl _) (.cells #[.int .i64 c] 3)).mono (by omega)).trans l4))
        have HO4 := Lib.hid o4
        clear o4 l4
        go_wp2_with fail
        go_ret2
        refine ⟨_, rfl, ?_, HB1.out.trans (HB4.out.mono HB1.out.size)⟩
        rw [HO.out, HE.out]
        exact own_base HO4.out HB1.out.size
end Go.Proofs.YtncjplcefdeckaaDoor
