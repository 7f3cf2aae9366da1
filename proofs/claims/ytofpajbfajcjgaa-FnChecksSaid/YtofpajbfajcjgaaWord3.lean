/-
  Words: 'SealWords', 'WordsOf' and 'TextSum' of both packages.
-/
import Derived.Test.YtofpajbfajcjgaaWord2
namespace Go.Proofs.Ytofpajbfajcjgaa
open Go.RowKit Go.Lib
set_option linter.unusedVariables false

theorem below_app {B : Nat} {w wr w1 : World} {o : Obj} {e : TypeId} {z n : Nat} {v : Value} {xs : List Value} (hb : Below B w wr) (hB : B ≤ wr.heap.size) (ho : wr.ownsRow B e z v n xs) (hg : (wr.alloc o).grownBy w1 v.ownBlock) : Below B w w1 :=
  (hb.alloc hB o).grown hg (by simp; omega) (fun k hk => (ho.lt k hk).1)
theorem below_lit {w w1 : World} {o : Obj} {n c : Nat} (hg : (w.alloc o).grownBy w1 (Value.slice (some ⟨w.heap.size, 0, none⟩) n c).ownBlock) : Below w.heap.size w w1 :=
  ((Below.refl w.heap.size w).alloc (Nat.le_refl _) o).grown hg (by simp) (fun k hk => by have e : w.heap.size = k := Option.some.inj hk; omega)
theorem slL_no {xs : List Int} (h : slOk xs = false) : slL xs = [] := by unfold slL; rw [h]; rfl
theorem slL_yes {xs : List Int} (h : slOk xs = true) : slL xs = xs ++ [65535 - sumW xs] := if_pos h
theorem slL_len (xs : List Int) : (slL xs).length ≤ xs.length + 1 := by
  cases h : slOk xs with
  | false => rw [slL_no h]; simp
  | true => rw [slL_yes h]; simp
theorem own_snoc {W : World} {B n : Nat} {v : Value} {xs ys : List Int} {c : Int} (he : ys = xs ++ [c]) (hn : n = xs.length) (h : W.ownsRow B 3 1 v (n + 1) (xs.map (Value.int .i64) ++ [.int .i64 c])) : W.ownsRow B 3 1 v ys.length (ys.map (Value.int .i64)) := by
  subst he; subst hn
  rw [List.length_append, List.length_singleton, List.map_append, List.map_singleton]
  exact h
theorem row_some {w : World} {ad : Addr} {n cap : Nat} {xs : List Value} (h : Row w (.slice (some ad) n cap) n xs) : n ≤ cap ∧ cap ≤ maxLen := by
  obtain ⟨a', c', e', h1, h2, _⟩ := h
  injection e' with _ _ e3
  subst e3
  exact ⟨h1, h2⟩

set_option maxHeartbeats 1000000 in
theorem l1Own_any (ad : Addr) (cap : Nat) (xs : List Int) (w : World) (hrow : Row w (.slice (some ad) xs.length cap) xs.length (xs.map (Value.int .i64))) (hn : xs.length ≤ 1048576) :
    Calls Try.prog 48 #[.slice (some ad) xs.length cap] w fun e w' => ∃ v', e = .returned v' ∧ w'.ownsRow w.heap.size 3 1 v' xs.length (xs.map (Value.int .i64)) ∧ Below w.heap.size w w' := by
  obtain ⟨i0, hi, hz0, hz1, hz2⟩ := info_parts infoInt
  obtain ⟨hc1, hc2⟩ := row_some hrow
  have HR := Lib.hid hrow
  clear hrow
  go_enter Try.func48, Try.ntmps48
  go_wp2_with (at_builtin; refine wpList_append_own_at _ rfl _ _ 24 rfl w.heap.size 3 i0 (.int .i64 0) 1 8 Try.underlying24 hi hz0 hz1 hz2 rfl (by decide) _ 0 [] rfl (own_lit (heap_alloc_new w _) (Nat.le_refl _)) ad xs.length cap (xs.map (Value.int .i64)) rfl (by rw [List.length_map, Nat.mul_one]) (row_news (HR.out.below ((Below.refl w.heap.size w).alloc (Nat.le_refl _) _) (Nat.le_refl _))) (one_ints xs) (by unfold maxLen; omega) (by omega) (by simp) ?_; intro v1 w1 hown hgrow hnil hat)
  have hb := below_lit hgrow
  rw [Nat.zero_add, List.nil_append] at hown
  have HB := Lib.hid hb
  have HO := Lib.hid hown
  clear hb hown hgrow hnil hat
  go_ret
  exact ⟨_, rfl, HO.out, HB.out⟩
set_option maxHeartbeats 1000000 in
theorem specSeal_any (ad : Addr) (cap : Nat) (xs : List Int) (w : World) (hrow : Row w (.slice (some ad) xs.length cap) xs.length (xs.map (Value.int .i64))) :
    Calls Try.prog 17 #[.slice (some ad) xs.length cap] w fun e w' => ∃ v', e = .returned (.tuple #[v', .bool (slOk xs)]) ∧
      w'.ownsRow w.heap.size 3 1 v' (slL xs).length ((slL xs).map (Value.int .i64)) ∧ Below w.heap.size w w' := by
  obtain ⟨i0, hi, hz0, hz1, hz2⟩ := info_parts infoInt
  obtain ⟨hc1, hc2⟩ := row_some hrow
  unfold maxLen at hc2
  have HR := Lib.hid hrow
  have HG := Lib.hid (fun w h => l3Good_any (.slice (some ad) xs.length cap) xs w h)
  cases ho : slOk xs with
  | false =>
    rw [slL_no ho]
    cases hw : wOk xs with
    | false =>
      rw [hw] at HG
      clear hrow ho hw; try clear hl
      go_enter Try.func17, Try.ntmps17
      go_wp2_with (go_at_call 47; refine (HG.out _ HR.out).mono ?_; rintro e w' ⟨rfl, rfl⟩)
      go_ret2
      exact ⟨_, rfl, World.ownsRow_made w #[] 0 (Nat.le_refl _) (Nat.zero_le _) rfl, (Below.refl _ _).alloc (Nat.le_refl _) _⟩
    | true =>
      have hl : xs.length = 40 := by
        rcases Classical.em (xs.length = 40) with h | h
        · exact h
        · unfold slOk at ho; rw [hw, decide_eq_true h] at ho; cases ho
      have hl' : ((xs.length : Int) == 40) = true := by simp [hl]
      rw [hw] at HG
      clear hrow ho hw; try clear hl
      go_enter Try.func17, Try.ntmps17
      go_wp2_with (go_at_call 47; refine (HG.out _ HR.out).mono ?_; rintro e w' ⟨rfl, rfl⟩)
      go_ret2
      exact ⟨_, rfl, World.ownsRow_made w #[] 0 (Nat.le_refl _) (Nat.zero_le _) rfl, (Below.refl _ _).alloc (Nat.le_refl _) _⟩
  | true =>
    have hw : wOk xs = true := by unfold slOk at ho; rw [Bool.and_eq_true] at ho; exact ho.1
    have hl : xs.length ≠ 40 := by unfold slOk at ho; rw [Bool.and_eq_true] at ho; exact of_decide_eq_true ho.2
    have hl' : ((xs.length : Int) == 40) = false := by simp; omega
    have h40 := wOk_len hw
    have HV := Lib.hid (slL_yes ho)
    have HS := Lib.hid (fun w h => l3Sum_any (.slice (some ad) xs.length cap) xs w h (wOk_all hw))
    have HC := Lib.hid (fun w h => l1Own_any ad cap xs w h (by omega))
    obtain ⟨s0, s1⟩ := sum_bd (wOk_all hw)
    rw [hw] at HG
    generalize sumW xs = s at HV HS s0 s1
    clear hrow ho hw hl
    go_enter Try.func17, Try.ntmps17
    go_wp2_with (go_at_call 47; refine (HG.out _ HR.out).mono ?_; rintro e w' ⟨rfl, rfl⟩)
    refine (HC.out _ HR.out).mono ?_
    rintro e w1 ⟨v1, rfl, ho1, hb1⟩
    have HO1 := Lib.hid ho1
    have HB1 := Lib.hid hb1
    have hsz := hb1.size
    clear ho1 hb1
    go_wp2_with (first | (go_at_call 49; refine (HS.out _ (HR.out.below HB1.out (Nat.le_refl _))).mono ?_; rintro e w' ⟨rfl, rfl⟩) | (at_builtin; refine wpList_append_own _ rfl _ _ 24 rfl w.heap.size 3 i0 (.int .i64 0) 1 8 Try.underlying24 hi hz0 hz1 hz2 rfl (by decide) _ _ _ rfl (HO1.out.alloc _) ⟨w1.heap.size, 0, none⟩ 1 1 [.int .i64 (65535 - s)] rfl rfl (cell_one_new _ _ _) (by intro u hu; simp at hu; subst hu; rfl) (by unfold maxLen; omega) (by omega) (by simp; omega) ?_; intro v' w2 hown' hgrow _))
    have HB2 := Lib.hid (below_app HB1.out hsz HO1.out hgrow)
    have HO2 := Lib.hid (own_snoc HV.out rfl hown')
    clear hown' hgrow
    go_ret2
    exact ⟨_, rfl, HO2.out, HB2.out⟩
set_option maxHeartbeats 1000000 in
theorem implSeal_any (ad : Addr) (cap : Nat) (xs : List Int) (w : World) (hrow : Row w (.slice (some ad) xs.length cap) xs.length (xs.map (Value.int .i64))) :
    Calls Try.prog 16 #[.slice (some ad) xs.length cap] w fun e w' => ∃ v', e = .returned (.tuple #[v', .bool (slOk xs)]) ∧
      w'.ownsRow w.heap.size 3 1 v' (slL xs).length ((slL xs).map (Value.int .i64)) ∧ Below w.heap.size w w' := by
  obtain ⟨i0, hi, hz0, hz1, hz2⟩ := info_parts infoInt
  obtain ⟨hc1, hc2⟩ := row_some hrow
  unfold maxLen at hc2
  have HR := Lib.hid hrow
  have HG := Lib.hid (implChk_any (.slice (some ad) xs.length cap) xs w hrow)
  cases ho : slOk xs with
  | false =>
    rw [slL_no ho]
    cases hw : wOk xs with
    | false =>
      rw [hw] at HG
      clear hrow ho hw; try clear hl
      generalize chkV xs = s at HG
      go_enter Try.func16, Try.ntmps16
      go_wp2_with (go_at_call 20; refine HG.out.mono ?_; rintro e w' ⟨rfl, rfl⟩)
      go_ret2
      exact ⟨_, rfl, World.ownsRow_made w #[] 0 (Nat.le_refl _) (Nat.zero_le _) rfl, (Below.refl _ _).alloc (Nat.le_refl _) _⟩
    | true =>
      have hl : xs.length = 40 := by
        rcases Classical.em (xs.length = 40) with h | h
        · exact h
        · unfold slOk at ho; rw [hw, decide_eq_true h] at ho; cases ho
      have hl' : ((xs.length : Int) == 40) = true := by simp [hl]
      rw [hw] at HG
      clear hrow ho hw; try clear hl
      generalize chkV xs = s at HG
      go_enter Try.func16, Try.ntmps16
      go_wp2_with (go_at_call 20; refine HG.out.mono ?_; rintro e w' ⟨rfl, rfl⟩)
      go_ret2
      exact ⟨_, rfl, World.ownsRow_made w #[] 0 (Nat.le_refl _) (Nat.zero_le _) rfl, (Below.refl _ _).alloc (Nat.le_refl _) _⟩
  | true =>
    have hw : wOk xs = true := by unfold slOk at ho; rw [Bool.and_eq_true] at ho; exact ho.1
    have hl : xs.length ≠ 40 := by unfold slOk at ho; rw [Bool.and_eq_true] at ho; exact of_decide_eq_true ho.2
    have hl' : ((xs.length : Int) == 40) = false := by simp; omega
    have h40 := wOk_len hw
    have HV : Hid (slL xs = xs ++ [chkV xs]) := Lib.hid (by rw [slL_yes ho]; congr 2; exact (if_pos hw).symm)
    rw [hw] at HG
    generalize chkV xs = s at HV HG
    clear hrow ho hw hl
    go_enter Try.func16, Try.ntmps16
    go_wp2_with (first | (go_at_call 20; refine HG.out.mono ?_; rintro e w' ⟨rfl, rfl⟩) | (at_builtin; refine wpList_append_own _ rfl _ _ 24 rfl w.heap.size 3 i0 (.int .i64 0) 1 8 Try.underlying24 hi hz0 hz1 hz2 rfl (by decide) _ _ _ rfl (hown.alloc _) ⟨w1.heap.size, 0, none⟩ 1 1 [.int .i64 s] rfl rfl (cell_one_new _ _ _) (by intro u hu; simp at hu; subst hu; rfl) (by unfold maxLen; omega) (by omega) (by have := hgrow.size; simp at this; simp; omega) ?_; intro v' w2 hown' hgrow' _) | (at_builtin; refine wpList_append_own_at _ rfl _ _ 24 rfl w.heap.size 3 i0 (.int .i64 0) 1 8 Try.underlying24 hi hz0 hz1 hz2 rfl (by decide) _ 0 [] rfl (own_lit (heap_alloc_new w _) (Nat.le_refl _)) ad xs.length cap (xs.map (Value.int .i64)) rfl (by rw [List.length_map, Nat.mul_one]) (row_news (HR.out.below ((Below.refl w.heap.size w).alloc (Nat.le_refl _) _) (Nat.le_refl _))) (one_ints xs) (by unfold maxLen; omega) (by omega) (by simp) ?_; intro v1 w1 hown hgrow hnil hat))
    have hb1 := below_lit hgrow
    have HB2 := Lib.hid (below_app hb1 hb1.size hown hgrow')
    rw [Nat.zero_add, List.nil_append] at hown'
    have HO2 := Lib.hid (own_snoc HV.out rfl hown')
    clear hown' hgrow' hown hgrow hnil hat hb1
    go_ret2
    exact ⟨_, rfl, HO2.out, HB2.out⟩
theorem woL_no {s : ByteArray} (h : woOk s = false) : woL s = [] := by unfold woL; rw [h]; rfl
theorem woL_yes {s : ByteArray} (h : woOk s = true) : woL s = wrdsOf s := if_pos h
theorem woL_len (s : ByteArray) : (woL s).length ≤ 40 := by
  cases h : woOk s with
  | false => rw [woL_no h]; simp
  | true =>
    rw [woL_yes h]
    unfold woOk at h
    have := of_decide_eq_true h
    unfold wrdsOf; rw [wrds_len]; omega
theorem own_wrd {W : World} {B k : Nat} {v : Value} {s : ByteArray} {x : Int} (he : x = wAt s k) (h : W.ownsRow B 3 1 v (k + 1) ((wrds s k).map (Value.int .i64) ++ [.int .i64 x])) : W.ownsRow B 3 1 v (k + 1) ((wrds s (k + 1)).map (Value.int .i64)) := by
  subst he
  rw [wrds_succ, List.map_append, List.map_singleton]
  exact h
theorem wAt_two {s : ByteArray} {j k : Nat} (h : j = 2 * k) (h0 : j < s.size) (h1 : j + 1 < s.size) : 256 * (s[j].toNat : Int) + (s[j + 1].toNat : Int) = wAt s k := by
  subst h
  unfold wAt
  rw [byteI_in h0, byteI_in h1]
theorem wAt_one {s : ByteArray} {j k : Nat} (h : j = 2 * k) (h0 : j < s.size) (h1 : ¬ j + 1 < s.size) : 256 * (s[j].toNat : Int) = wAt s k := by
  subst h
  unfold wAt
  rw [byteI_in h0, byteI_out h1, Int.add_zero]

set_option maxHeartbeats 1000000 in
theorem l3Words_any (s : ByteArray) (w : World) (hs : s.size ≤ 2097152) :
    Calls Try.prog 59 #[.string s] w fun e w' => ∃ v', e = .returned v' ∧ w'.ownsRow w.heap.size 3 1 v' ((s.size + 1) / 2) ((wrdsOf s).map (Value.int .i64)) ∧ Below w.heap.size w w' := by
  obtain ⟨i0, hi, hz0, hz1, hz2⟩ := info_parts infoInt
  go_enter Try.func59, Try.ntmps59
  go_wp2_with fail
  go_loopw [3, 4] (fun o i wr => ∃ k j : Nat, Hid (j = 2 * k) ∧ k ≤ j ∧ j ≤ s.size + 1 ∧ i = .int .i64 j ∧ Hid (wr.ownsRow w.heap.size 3 1 o k ((wrds s k).map (Value.int .i64))) ∧ Hid (Below w.heap.size w wr)) (fun _ i _ => s.size + 2 - (intOf i).toNat)
  case atStart => exact ⟨0, 0, Lib.hid rfl, Nat.le_refl _, by omega, rfl, Lib.hid (World.ownsRow_made w #[] 0 (Nat.le_refl _) (Nat.zero_le _) rfl), Lib.hid ((Below.refl _ _).alloc (Nat.le_refl _) _)⟩
  case round =>
    obtain ⟨k, j, HJ, hkj, hj, rfl, HO, HB⟩ := hrel
    have hsz := HB.out.size
    by_cases hjs : j < s.size
    · have u0 : s[j].toNat < 256 := s[j].toNat_lt
      by_cases hj1 : j + 1 < s.size
      · have u1 : s[j + 1].toNat < 256 := s[j + 1].toNat_lt
        have HX := Lib.hid (wAt_two HJ.out hjs hj1)
        go_wp2_with (at_builtin; refine wpList_append_own _ rfl _ _ 24 rfl w.heap.size 3 i0 (.int .i64 0) 1 8 Try.underlying24 hi hz0 hz1 hz2 rfl (by decide) _ _ _ rfl (HO.out.alloc _) ⟨wr.heap.size, 0, none⟩ 1 1 [.int .i64 (256 * (s[j].toNat : Int) + (s[j + 1].toNat : Int))] rfl rfl (cell_one_new _ _ _) (by intro u hu; simp at hu; subst hu; rfl) (by unfold maxLen; omega) (by omega) (by simp; omega) ?_; intro v' w2 hown' hgrow _)
        have HB2 := Lib.hid (below_app HB.out hsz HO.out hgrow)
        have HO2 := Lib.hid (own_wrd HX.out hown')
        clear hown' hgrow
        go_roundw
        case rel => exact ⟨k + 1, j + 2, Lib.hid (by have := HJ.out; omega), by omega, by omega, by go_num, HO2, HB2⟩
        case measure => simp [intOf]; omega
      · have HX := Lib.hid (wAt_one HJ.out hjs hj1)
        go_wp2_with (at_builtin; refine wpList_append_own _ rfl _ _ 24 rfl w.heap.size 3 i0 (.int .i64 0) 1 8 Try.underlying24 hi hz0 hz1 hz2 rfl (by decide) _ _ _ rfl (HO.out.alloc _) ⟨wr.heap.size, 0, none⟩ 1 1 [.int .i64 (256 * (s[j].toNat : Int))] rfl rfl (cell_one_new _ _ _) (by intro u hu; simp at hu; subst hu; rfl) (by unfold maxLen; omega) (by omega) (by simp; omega) ?_; intro v' w2 hown' hgrow _)
        have HB2 := Lib.hid (below_app HB.out hsz HO.out hgrow)
        have HO2 := Lib.hid (own_wrd HX.out hown')
        clear hown' hgrow
        go_roundw
        case rel => exact ⟨k + 1, j + 2, Lib.hid (by have := HJ.out; omega), by omega, by omega, by go_num, HO2, HB2⟩
        case measure => simp [intOf]; omega
    · have HK : Hid (k = (s.size + 1) / 2) := Lib.hid (by have := HJ.out; omega)
      go_wp2_with fail
      go_ret
      exact ⟨_, rfl, by have := HO.out; rw [HK.out] at this; exact this, HB.out⟩
theorem specWo_any (s : ByteArray) (w : World) (hs : s.size ≤ 2097152) :
    Calls Try.prog 37 #[.string s] w fun e w' => ∃ v', e = .returned (.tuple #[v', .bool (woOk s)]) ∧
      w'.ownsRow w.heap.size 3 1 v' (woL s).length ((woL s).map (Value.int .i64)) ∧ Below w.heap.size w w' := by
  by_cases h : s.size ≤ 80
  · have ho : woOk s = true := decide_eq_true h
    have h' : ¬ (80 : Int) < s.size := by omega
    have HE : Hid ((woL s).length = (s.size + 1) / 2) := Lib.hid (by rw [woL_yes ho]; unfold wrdsOf; rw [wrds_len])
    rw [HE.out, woL_yes ho, ho]
    have HC := Lib.hid (l3Words_any s w hs)
    clear ho
    go_enter Try.func37, Try.ntmps37
    go_wp2_with fail
    refine HC.out.mono ?_
    rintro e w1 ⟨v1, rfl, ho1, hb1⟩
    have HO1 := Lib.hid ho1
    have HB1 := Lib.hid hb1
    clear ho1 hb1
    go_wp2_with fail
    go_ret2
    exact ⟨_, rfl, HO1.out, HB1.out⟩
  · have ho : woOk s = false := decide_eq_false h
    have h' : (80 : Int) < s.size := by omega
    rw [woL_no ho, ho]
    clear ho h
    go_enter Try.func37, Try.ntmps37
    go_wp2_with fail
    go_ret2
    exact ⟨_, rfl, World.ownsRow_made w #[] 0 (Nat.le_refl _) (Nat.zero_le _) rfl, (Below.refl _ _).alloc (Nat.le_refl _) _⟩
set_option maxHeartbeats 1000000 in
theorem implWo_any (s : ByteArray) (w : World) (hs : s.size ≤ 2097152) :
    Calls Try.prog 36 #[.string s] w fun e w' => ∃ v', e = .returned (.tuple #[v', .bool (woOk s)]) ∧
      w'.ownsRow w.heap.size 3 1 v' (woL s).length ((woL s).map (Value.int .i64)) ∧ Below w.heap.size w w' := by
  obtain ⟨i0, hi, hz0, hz1, hz2⟩ := info_parts infoInt
  by_cases h : s.size ≤ 80
  · have ho : woOk s = true := decide_eq_true h
    have h' : ¬ (80 : Int) < s.size := by omega
    have HE : Hid ((woL s).length = (s.size + 1) / 2) := Lib.hid (by rw [woL_yes ho]; unfold wrdsOf; rw [wrds_len])
    rw [HE.out, woL_yes ho, ho]
    clear ho
    go_enter Try.func36, Try.ntmps36
    go_wp2_with fail
    go_loopw [4, 5] (fun o i wr => ∃ k j : Nat, Hid (j = 2 * k) ∧ k ≤ j ∧ j ≤ s.size + 1 ∧ i = .int .i64 j ∧ Hid (wr.ownsRow w.heap.size 3 1 o k ((wrds s k).map (Value.int .i64))) ∧ Hid (Below w.heap.size w wr)) (fun _ i _ => s.size + 2 - (intOf i).toNat)
    case atStart => exact ⟨0, 0, Lib.hid rfl, Nat.le_refl _, by omega, rfl, Lib.hid (World.ownsRow_made w #[] 0 (Nat.le_refl _) (Nat.zero_le _) rfl), Lib.hid ((Below.refl _ _).alloc (Nat.le_refl _) _)⟩
    case round =>
      obtain ⟨k, j, HJ, hkj, hj, rfl, HO, HB⟩ := hrel
      have hsz := HB.out.size
      by_cases hjs : j < s.size
      · have u0 : s[j].toNat < 256 := s[j].toNat_lt
        by_cases hj1 : j + 1 < s.size
        · have u1 : s[j + 1].toNat < 256 := s[j + 1].toNat_lt
          have HX := Lib.hid (wAt_two HJ.out hjs hj1)
          go_wp2_with (at_builtin; refine wpList_append_own _ rfl _ _ 24 rfl w.heap.size 3 i0 (.int .i64 0) 1 8 Try.underlying24 hi hz0 hz1 hz2 rfl (by decide) _ _ _ rfl (HO.out.alloc _) ⟨wr.heap.size, 0, none⟩ 1 1 [.int .i64 (256 * (s[j].toNat : Int) + (s[j + 1].toNat : Int))] rfl rfl (cell_one_new _ _ _) (by intro u hu; simp at hu; subst hu; rfl) (by unfold maxLen; omega) (by omega) (by simp; omega) ?_; intro v' w2 hown' hgrow _)
          have HB2 := Lib.hid (below_app HB.out hsz HO.out hgrow)
          have HO2 := Lib.hid (own_wrd HX.out hown')
          clear hown' hgrow
          go_roundw
          case rel => exact ⟨k + 1, j + 2, Lib.hid (by have := HJ.out; omega), by omega, by omega, by go_num, HO2, HB2⟩
          case measure => simp [intOf]; omega
        · have HX := Lib.hid (wAt_one HJ.out hjs hj1)
          go_wp2_with (at_builtin; refine wpList_append_own _ rfl _ _ 24 rfl w.heap.size 3 i0 (.int .i64 0) 1 8 Try.underlying24 hi hz0 hz1 hz2 rfl (by decide) _ _ _ rfl (HO.out.alloc _) ⟨wr.heap.size, 0, none⟩ 1 1 [.int .i64 (256 * (s[j].toNat : Int))] rfl rfl (cell_one_new _ _ _) (by intro u hu; simp at hu; subst hu; rfl) (by unfold maxLen; omega) (by omega) (by simp; omega) ?_; intro v' w2 hown' hgrow _)
          have HB2 := Lib.hid (below_app HB.out hsz HO.out hgrow)
          have HO2 := Lib.hid (own_wrd HX.out hown')
          clear hown' hgrow
          go_roundw
          case rel => exact ⟨k + 1, j + 2, Lib.hid (by have := HJ.out; omega), by omega, by omega, by go_num, HO2, HB2⟩
          case measure => simp [intOf]; omega
      · have HK : Hid (k = (s.size + 1) / 2) := Lib.hid (by have := HJ.out; omega)
        go_wp2_with fail
        go_ret2
        exact ⟨_, rfl, by have := HO.out; rw [HK.out] at this; exact this, HB.out⟩
  · have ho : woOk s = false := decide_eq_false h
    have h' : (80 : Int) < s.size := by omega
    rw [woL_no ho, ho]
    clear ho h
    go_enter Try.func36, Try.ntmps36
    go_wp2_with fail
    go_ret2
    exact ⟨_, rfl, World.ownsRow_made w #[] 0 (Nat.le_refl _) (Nat.zero_le _) rfl, (Below.refl _ _).alloc (Nat.le_refl _) _⟩
theorem tsOk_is (a b : ByteArray) : woOk (a ++ b) = tsOk a b := by unfold woOk tsOk; rw [ByteArray.size_append]
theorem specTs_any (a b : ByteArray) (w : World) (ha : a.size ≤ 1048576) (hb : b.size ≤ 1048576) :
    Calls Try.prog 33 #[.string a, .string b] w fun e w' => e = .returned (.tuple #[.int .i64 (tsV a b), .bool (tsOk a b)]) ∧ Below w.heap.size w w' := by
  by_cases h : a.size + b.size ≤ 80
  · have ho : tsOk a b = true := decide_eq_true h
    have h' : ¬ (80 : Int) < (a.size : Int) + b.size := by omega
    have hx : (a ++ b).size = a.size + b.size := ByteArray.size_append
    have HV : Hid (tsV a b = sumW (wrdsOf (a ++ b))) := Lib.hid (if_pos ho)
    have HC := Lib.hid (l3Words_any (a ++ b) w (by omega))
    have HW : Hid (((a ++ b).size + 1) / 2 = (wrdsOf (a ++ b)).length) := Lib.hid (by unfold wrdsOf; rw [wrds_len])
    have HA : Hid ((wrdsOf (a ++ b)).all serB = true) := Lib.hid (wrds_all _ _)
    rw [HW.out] at HC
    rw [ho]
    generalize wrdsOf (a ++ b) = xs at HV HC HA
    clear ho HW
    go_enter Try.func33, Try.ntmps33
    go_wp2_with fail
    refine HC.out.mono ?_
    rintro e w1 ⟨v1, rfl, ho1, hb1⟩
    have HO1 := Lib.hid ho1
    have HB1 := Lib.hid hb1
    clear ho1 hb1
    go_wp2_with fail
    refine (l3Sum_any _ xs _ (row_own HO1.out) HA.out).mono ?_
    rintro e w' ⟨rfl, rfl⟩
    go_wp2_with fail
    go_ret2
    exact ⟨ret_ib HV.out.symm rfl, HB1.out⟩
  · have ho : tsOk a b = false := decide_eq_false h
    have h' : (80 : Int) < (a.size : Int) + b.size := by omega
    have HV : Hid (tsV a b = 0) := Lib.hid (by unfold tsV; rw [ho]; rfl)
    rw [ho]
    clear ho h
    go_enter Try.func33, Try.ntmps33
    go_wp2_with fail
    go_ret2
    exact ⟨ret_ib HV.out.symm rfl, Below.refl _ _⟩
theorem implTs_any (a b : ByteArray) (w : World) (ha : a.size ≤ 1048576) (hb : b.size ≤ 1048576) :
    Calls Try.prog 32 #[.string a, .string b] w fun e w' => e = .returned (.tuple #[.int .i64 (tsV a b), .bool (tsOk a b)]) ∧ Below w.heap.size w w' := by
  have hx : (a ++ b).size = a.size + b.size := ByteArray.size_append
  have HC := Lib.hid (implWo_any (a ++ b) w (by omega))
  rw [tsOk_is] at HC
  cases ho : tsOk a b with
  | true =>
    have hw : woOk (a ++ b) = true := by rw [tsOk_is]; exact ho
    have HV : Hid (tsV a b = sumV (wrdsOf (a ++ b))) := Lib.hid (by rw [sumV_yes (wrdsOf_ok (by unfold woOk at hw; exact of_decide_eq_true hw))]; exact if_pos ho)
    have HK : Hid (wOk (wrdsOf (a ++ b)) = true) := Lib.hid (wrdsOf_ok (by unfold woOk at hw; exact of_decide_eq_true hw))
    rw [woL_yes hw, ho] at HC
    generalize wrdsOf (a ++ b) = xs at HV HC HK
    clear ho hw
    go_enter Try.func32, Try.ntmps32
    go_wp2_with fail
    refine HC.out.mono ?_
    rintro e w1 ⟨v1, rfl, ho1, hb1⟩
    have HO1 := Lib.hid ho1
    have HB1 := Lib.hid hb1
    clear ho1 hb1
    go_wp2_with fail
    refine (implSum_any _ xs _ (row_own HO1.out)).mono ?_
    rintro e w' ⟨rfl, rfl⟩
    go_wp2_with fail
    go_ret2
    exact ⟨ret_ib HV.out.symm HK.out, HB1.out⟩
  | false =>
    have hw : woOk (a ++ b) = false := by rw [tsOk_is]; exact ho
    have HV : Hid (tsV a b = 0) := Lib.hid (by unfold tsV; rw [ho]; rfl)
    rw [woL_no hw, ho] at HC
    clear ho hw
    go_enter Try.func32, Try.ntmps32
    go_wp2_with fail
    refine HC.out.mono ?_
    rintro e w1 ⟨v1, rfl, _, hb1⟩
    have HB1 := Lib.hid hb1
    clear hb1
    go_wp2_with fail
    go_ret2
    exact ⟨ret_ib HV.out.symm rfl, HB1.out⟩
end Go.Proofs.Ytofpajbfajcjgaa
