/-
  'SortSerials' of the specification: an insertion sort by gaps.
-/
import Derived.Test.YtfdpjgjclbnnfaaSer3
import Derived.Test.YtfdpjgjclbnnfaaInts
import Derived.Test.YtfdpjgjclbnnfaaSpanOf3
import Derived.Deep.QuietTactic
import Derived.BigQuiet
import Derived.IntWalk
import Derived.Deep.LoopGhost
import Derived.Test.YtfdpjgjclbnnfaaAppRow
namespace Go.Proofs.Ytfdpjgjclbnnfaa
open Go.RowKit Go.Lib
set_option linter.unusedVariables false

/-- Where x goes among the first k: behind the last one whose gap is not greater. -/
def posA (a x : Int) (os : List Int) : Nat → Nat
  | 0 => 0
  | k + 1 => if gapI a x < gapI a (os.getD k 0) then posA a x os k else k + 1
def insI (a : Int) (os : List Int) (x : Int) : List Int := os.take (posA a x os os.length) ++ (x :: os.drop (posA a x os os.length))
def sortI (a : Int) (xs : List Int) : List Int := xs.foldl (insI a) []

theorem posA_le (a x : Int) (os : List Int) : ∀ k, posA a x os k ≤ k
  | 0 => Nat.le_refl _
  | k + 1 => by
    unfold posA
    split
    · have := posA_le a x os k; omega
    · omega
theorem insI_len (a : Int) (os : List Int) (x : Int) : (insI a os x).length = os.length + 1 := by
  have := posA_le a x os os.length
  unfold insI
  simp; omega
theorem sortI_len (a : Int) (xs : List Int) : (sortI a xs).length = xs.length := by
  unfold sortI
  have : ∀ (l os : List Int), (l.foldl (insI a) os).length = os.length + l.length := by
    intro l
    induction l with
    | nil => intro os; simp
    | cons x l ih => intro os; rw [List.foldl_cons, ih, insI_len]; simp; omega
  rw [this]; simp
theorem sort_take {a : Int} {xs : List Int} {k : Nat} {u : Int} (hk : k < xs.length) (hu : u = xs[k]) : sortI a (xs.take (k + 1)) = insI a (sortI a (xs.take k)) u := by
  unfold sortI
  rw [List.take_succ_eq_append_getElem hk, List.foldl_append, hu]; rfl
theorem ins_mem {a x y : Int} {os : List Int} (h : y ∈ insI a os x) : y = x ∨ y ∈ os := by
  unfold insI at h
  rcases List.mem_append.1 h with h | h
  · exact .inr (List.mem_of_mem_take h)
  · rcases List.mem_cons.1 h with h | h
    · exact .inl h
    · exact .inr (List.mem_of_mem_drop h)
theorem ins_all {a x : Int} {os : List Int} (hx : serB x = true) (h : os.all serB = true) : (insI a os x).all serB = true := by
  rw [List.all_eq_true] at h ⊢
  intro y hy
  rcases ins_mem hy with rfl | hy
  · exact hx
  · exact h y hy
theorem sort_all {a : Int} (xs : List Int) (h : xs.all serB = true) : (sortI a xs).all serB = true := by
  unfold sortI
  have : ∀ (l os : List Int), l.all serB = true → os.all serB = true → (l.foldl (insI a) os).all serB = true := by
    intro l
    induction l with
    | nil => intro os _ h; exact h
    | cons x l ih =>
      intro os hl ho
      rw [List.all_cons, Bool.and_eq_true] at hl
      exact ih _ hl.2 (ins_all hl.1 ho)
  exact this xs [] h rfl

def srtOk (xs : List Int) (a : Int) : Bool := listOk xs && serB a
def srtL (xs : List Int) (a : Int) : List Int := if srtOk xs a = true then sortI a xs else []
theorem srtL_no {xs : List Int} {a : Int} (h : srtOk xs a = false) : srtL xs a = [] := by unfold srtL; rw [h]; rfl
theorem srtL_yes {xs : List Int} {a : Int} (h : srtOk xs a = true) : srtL xs a = sortI a xs := if_pos h

theorem ins_own {W : World} {B k j : Nat} {v : Value} {a u : Int} {os : List Int} {c : Nat} {ys zs : List Value} (hp : posA a u os j = k) (hl : os.length = j) (hk : k ≤ j) (hy : ys = (os.map (Value.int .i64)).take k) (hz : zs = (os.map (Value.int .i64)).drop k) (hc : c = j + 1)
    (h : W.ownsRow B 3 1 v c ([] ++ ys ++ [.int .i64 u] ++ zs)) : W.ownsRow B 3 1 v (j + 1) ((insI a os u).map (Value.int .i64)) := by
  subst hy; subst hz; subst hc
  have e : (insI a os u).map (Value.int .i64) = [] ++ (os.map (Value.int .i64)).take k ++ [.int .i64 u] ++ (os.map (Value.int .i64)).drop k := by
    unfold insI
    rw [hl, hp]
    simp [List.map_take, List.map_drop]
  rw [e]
  exact h

set_option maxHeartbeats 1000000 in
theorem specSort_any (v : Value) (xs : List Int) (a : Int) (w : World) (hrow : Row w v xs.length (xs.map (Value.int .i64))) :
    Calls Try.prog 35 #[v, .int .i64 a] w fun e w' => ∃ v', e = .returned (.tuple #[v', .bool (srtOk xs a)]) ∧
      w'.ownsRow w.heap.size 3 1 v' (srtL xs a).length ((srtL xs a).map (Value.int .i64)) ∧ Below w.heap.size w w' := by
  have hrow0 := Lib.hid hrow
  have HLs := Lib.hid (fun (wx : World) (hb : Below w.heap.size w wx) => l2List_any v xs wx (hrow.below hb (Nat.le_refl _)))
  obtain ⟨p, cap, rfl, hc1, hc2, hcell⟩ := row_open hrow
  unfold maxLen at hc2
  have HC := Lib.hid hcell
  clear hcell hrow
  obtain ⟨i0, hi, hz0, hz1, hz2⟩ := info_parts infoInt
  cases ho : srtOk xs a with
  | false =>
    rw [srtL_no ho]
    cases hl : listOk xs with
    | false =>
      rw [hl] at HLs
      clear ho hl
      go_enter Try.func35, Try.ntmps35
      go_wp2_with fail
      refine (HLs.out _ ((Below.refl _ _).alloc (Nat.le_refl _) _)).mono ?_
      rintro e w' ⟨rfl, rfl⟩
      go_wp2_with fail
      go_ret2
      exact ⟨_, rfl, World.ownsRow_made w #[] 0 (Nat.le_refl _) (Nat.zero_le _) rfl, (Below.refl _ _).alloc (Nat.le_refl _) _⟩
    | true =>
      have ha : serB a = false := by
        cases h : serB a with
        | false => rfl
        | true => unfold srtOk at ho; rw [hl, h] at ho; cases ho
      rw [hl] at HLs
      clear ho hl
      go_enter Try.func35, Try.ntmps35
      go_wp2_with fail
      refine (HLs.out _ ((Below.refl _ _).alloc (Nat.le_refl _) _)).mono ?_
      rintro e w' ⟨rfl, rfl⟩
      go_wp2_with (go_at_call 48; refine (l2Good_any _ _).mono ?_; rintro e w' ⟨rfl, rfl⟩)
      go_ret2
      exact ⟨_, rfl, World.ownsRow_made w #[] 0 (Nat.le_refl _) (Nat.zero_le _) rfl, (Below.refl _ _).alloc (Nat.le_refl _) _⟩
  | true =>
    rw [srtL_yes ho]
    have hlo : listOk xs = true := by unfold srtOk at ho; rw [Bool.and_eq_true] at ho; exact ho.1
    have ha : serB a = true := by unfold srtOk at ho; rw [Bool.and_eq_true] at ho; exact ho.2
    obtain ⟨a0, a1⟩ := serB_bd ha
    have hall : xs.all serB = true := by unfold listOk at hlo; rw [Bool.and_eq_true] at hlo; exact hlo.2
    have h20 : xs.length ≤ 20 := by unfold listOk at hlo; rw [Bool.and_eq_true] at hlo; exact of_decide_eq_true hlo.1
    rw [hlo] at HLs
    have HAll := Lib.hid hall
    clear ho hall hlo
    obtain ⟨n, hN⟩ : ∃ n, n = xs.length := ⟨_, rfl⟩
    have hsl : (sortI a xs).length = n := by rw [sortI_len, hN]
    rw [hsl]
    rw [← hN] at hc1 h20 HLs ⊢
    have HN := Lib.hid hN
    clear hN hsl
    go_enter Try.func35, Try.ntmps35
    go_wp2_with fail
    refine (HLs.out _ ((Below.refl _ _).alloc (Nat.le_refl _) _)).mono ?_
    rintro e w' ⟨rfl, rfl⟩
    go_wp2_with (go_at_call 48; refine (l2Good_any _ _).mono ?_; rintro e w' ⟨rfl, rfl⟩)
    clear ha
    go_loopw [6, 7] (fun o i wr => ∃ j g c : Nat, j ≤ n ∧ i = .int .i64 j ∧ o = .slice (some ⟨g, 0, none⟩) j c ∧ wr.ownsRow w.heap.size 3 1 o j ((sortI a (xs.take j)).map (Value.int .i64)) ∧ Below w.heap.size w wr) (fun _ i _ => n - (intOf i).toNat)
    case atStart => exact ⟨0, _, _, Nat.zero_le _, rfl, rfl, World.ownsRow_made w #[] 0 (Nat.le_refl _) (Nat.zero_le _) rfl, (Below.refl _ _).alloc (Nat.le_refl _) _⟩
    case round =>
      obtain ⟨j, g, ocap, hj, rfl, rfl, hown, hbel⟩ := hrel
      obtain ⟨wo, rfl⟩ : ∃ wo : World, wo = wr := ⟨_, rfl⟩
      by_cases hjn : j < n
      · have hjs : j < xs.length := by rw [← HN.out]; exact hjn
        obtain ⟨lb, lo, rfl, hlb, hlc⟩ := HC.out j hjs
        obtain ⟨x0, x1⟩ := ser_at HAll.out hjs
        obtain ⟨u, hu⟩ : ∃ u, u = xs[j] := ⟨_, rfl⟩
        rw [← hu] at hlc x0 x1
        have HST := Lib.hid (sort_take (a := a) hjs hu)
        have hsl : (sortI a (xs.take j)).length = j := by rw [sortI_len, List.length_take]; omega
        have hsa : (sortI a (xs.take j)).all serB = true := sort_all _ (by
          have := HAll.out
          rw [List.all_eq_true] at this ⊢
          exact fun y hy => this y (List.mem_of_mem_take hy))
        generalize sortI a (xs.take j) = os at HST hsl hsa hown
        have hlu : wo.cell? ⟨lb, lo + j, none⟩ = some (.int .i64 u) := (hbel.cell (p := ⟨lb, lo + j, none⟩) hlb).trans hlc
        have HOwn := Lib.hid hown
        have HBel := Lib.hid hbel
        have HSL := Lib.hid hsl
        have HSA := Lib.hid hsa
        have hocap : j ≤ ocap ∧ ocap ≤ maxLen := by
          obtain ⟨a', c', e', h1, h2, _⟩ := row_own hown
          injection e' with _ _ e3
          subst e3
          exact ⟨h1, h2⟩
        obtain ⟨ho1, ho2⟩ := hocap
        unfold maxLen at ho2
        clear hsa hown hbel hu hsl
        have HG := Lib.hid (fun (y : Int) (y0 : 0 ≤ y) (y1 : y ≤ 65535) (w : World) => l2Gap_any a y w a0 a1 y0 y1)
        go_wp2_with fail
        go_loopw [8] (fun q wr => ∃ k : Nat, k ≤ j ∧ q = .int .i64 k ∧ Hid (posA a u os k = posA a u os j) ∧ Hid (∃ d, wr = wo.drewN d)) (fun q _ => (intOf q).toNat)
        case atStart => exact ⟨j, Nat.le_refl _, rfl, Lib.hid rfl, Lib.hid ⟨0, rfl⟩⟩
        case round =>
          obtain ⟨k, hk, rfl, HP, HW⟩ := hrel
          by_cases hgo : 0 < k ∧ gapI a u < gapI a (os.getD (k - 1) 0)
          · obtain ⟨hk0, hlt⟩ := hgo
            obtain ⟨kp, rfl⟩ : ∃ kp, k = kp + 1 := ⟨k - 1, by omega⟩
            have hkp : kp < os.length := by rw [HSL.out]; omega
            rw [Nat.add_sub_cancel, List.getD_eq_getElem?_getD, List.getElem?_eq_getElem hkp, Option.getD_some] at hlt
            obtain ⟨⟨y', hy1, hocell⟩, _, _, _⟩ := own_facts HOwn.out (show kp < j by omega)
            rw [List.getElem?_map, List.getElem?_eq_getElem hkp] at hy1
            obtain rfl := Option.some.inj hy1
            obtain ⟨y0, y1⟩ := ser_at HSA.out hkp
            have HPS : Hid (posA a u os (kp + 1) = posA a u os kp) := Lib.hid (by
              rw [posA, List.getD_eq_getElem?_getD, List.getElem?_eq_getElem hkp, Option.getD_some, if_pos hlt])
            obtain ⟨y, hy⟩ : ∃ y, y = os[kp] := ⟨_, rfl⟩
            rw [← hy] at hocell y0 y1 hlt
            have hlu2 : wr.cell? ⟨lb, lo + j, none⟩ = some (.int .i64 u) := by obtain ⟨d, hd⟩ := HW.out; rw [hd]; exact hlu
            have hoy : wr.cell? ⟨g, kp, none⟩ = some (.int .i64 y) := by obtain ⟨d, hd⟩ := HW.out; rw [hd]; exact hocell
            clear hocell hy hy1 hk0
            go_wp2_with fail
            go_quiet (first | (go_at_call 57; exact quiet_eq (HG.out _ (by assumption) (by assumption) _)))
            go_wp2_with fail
            go_roundw
            case rel => exact ⟨kp, by omega, by go_num, Lib.hid (by rw [← HP.out, HPS.out]), Lib.hid (by obtain ⟨d, hd⟩ := HW.out; rw [hd, World.drewN_drewN]; exact ⟨_, rfl⟩)⟩
            case measure => (first | (simp [intOf]; done) | (simp [intOf]; omega))
          · have HPF : Hid (posA a u os j = k) := Lib.hid (by
              rw [← HP.out]
              cases k with
              | zero => rfl
              | succ kp =>
                rw [posA, if_neg (fun h => hgo ⟨by omega, by rw [Nat.add_sub_cancel]; exact h⟩)])
            by_cases hk0 : 0 < k
            · obtain ⟨kp, rfl⟩ : ∃ kp, k = kp + 1 := ⟨k - 1, by omega⟩
              have hkp : kp < os.length := by rw [HSL.out]; omega
              have hlt : ¬ gapI a u < gapI a os[kp] := fun h => hgo ⟨hk0, by rw [Nat.add_sub_cancel, List.getD_eq_getElem?_getD, List.getElem?_eq_getElem hkp, Option.getD_some]; exact h⟩
              obtain ⟨⟨y', hy1, hocell⟩, _, _, _⟩ := own_facts HOwn.out (show kp < j by omega)
              rw [List.getElem?_map, List.getElem?_eq_getElem hkp] at hy1
              obtain rfl := Option.some.inj hy1
              obtain ⟨y0, y1⟩ := ser_at HSA.out hkp
              obtain ⟨y, hy⟩ : ∃ y, y = os[kp] := ⟨_, rfl⟩
              rw [← hy] at hocell y0 y1 hlt
              have hlu2 : wr.cell? ⟨lb, lo + j, none⟩ = some (.int .i64 u) := by obtain ⟨d, hd⟩ := HW.out; rw [hd]; exact hlu
              have hoy : wr.cell? ⟨g, kp, none⟩ = some (.int .i64 y) := by obtain ⟨d, hd⟩ := HW.out; rw [hd]; exact hocell
              clear hocell hy hy1 hk0 hgo
              go_wp2_with fail
              go_quiet (first | (go_at_call 57; exact quiet_eq (HG.out _ (by assumption) (by assumption) _)))
              go_wp2_with fail
              obtain ⟨k, hkk⟩ : ∃ k : Nat, k = kp + 1 := ⟨_, rfl⟩
              rw [← hkk] at HPF hk
              rw [show ((kp : Int) + 1) = (k : Int) by omega]
              clear hlt hoy hkp HP y0 y1 hlu2 hkk
              obtain ⟨W0, d0, hd0, hd1⟩ : ∃ (W0 : World) (d : Nat), W0 = wo.drewN d ∧ W0 = wr.drewN nq := by obtain ⟨d, hd⟩ := HW.out; exact ⟨_, d + nq, by rw [hd, World.drewN_drewN], rfl⟩
              rw [← hd1]
              have hlu0 : W0.cell? ⟨lb, lo + j, none⟩ = some (.int .i64 u) := by rw [hd0]; exact hlu
              have HO0 : Hid (W0.ownsRow w.heap.size 3 1 (.slice (some ⟨g, 0, none⟩) j ocap) j (os.map (Value.int .i64))) := Lib.hid (by rw [hd0]; exact own_below HOwn.out (bdrew _ _) (Nat.le_refl _))
              have HB0 : Hid (Below w.heap.size w W0) := Lib.hid (by rw [hd0]; exact HBel.out.trans ((bdrew _ _).mono HBel.out.size))
              have hlb0 : lb < W0.heap.size := World.block_lt_of_cell? W0 _ hlu0
              have j0 : (0 : Int) ≤ (j : Int) := by omega
              have j1 : (j : Int) < (n : Int) := by omega
              clear hd0 hd1 hlu HW
              have tokB : True := trivial
              have k0 : (0 : Int) ≤ (k : Int) := by omega
              have k1 : (k : Int) ≤ (ocap : Int) := by omega
              have k2 : (k : Int) ≤ (j : Int) := by omega
              by_cases hck : ocap = k
              · obtain rfl : k = ocap := hck.symm
                have hjk : j - k = 0 := by omega
                have HH0 := Lib.hid (row_head' (row_own HO0.out) hk)
                have HT0 : Hid (Row W0 (.slice (some ⟨g, 0, none⟩) 0 0) 0 []) := Lib.hid (row_none _ _ _ (Nat.zero_le _))
                have HZ0 : Hid ([] = (os.map (Value.int .i64)).drop k) := Lib.hid (by
                  rw [List.drop_of_length_le (by rw [List.length_map, HSL.out]; omega)])
                clear hjk
                go_region_held3 (fun w' => w'.cell? ⟨lb, lo + j, none⟩ = some (.int .i64 u) ∧ Below W0.heap.size W0 w')
                  ((refine keep_cell hlu0 hlb0 ?_; repeat (first | assumption | exact Below.refl _ _ | refine Below.drew ?_ | refine below_alloc' ?_)))
                  (first
                    | (have _t := tokB; refine step_append_row (by rfl) _ _ _ (by rfl) W0.heap.size 3 i0 (.int .i64 0) 8 Try.underlying34 hi hz0 hz1 hz2 rfl _ 0 [] (by rfl) (own_lit (by first | exact heap_alloc_new _ _ | exact heap_first _ _ _ | exact heap_second _ _ _) (by omega)) ⟨g, 0, none⟩ k k ((os.map (Value.int .i64)).take k) (by rfl) (HH0.out.below (by repeat (first | assumption | exact Below.refl _ _ | refine Below.drew ?_ | refine below_alloc' ?_)) (Nat.le_refl _)) (by rw [List.length_take, List.length_map, HSL.out]; omega) (fun q hq => one_ints os q (List.mem_of_mem_take hq)) (by unfold maxLen; omega) (by omega) (below_size' (by repeat (first | assumption | exact Below.refl _ _ | refine Below.drew ?_ | refine below_alloc' ?_))) ?_; intro v1 w1 hown1 hgrow1 hat1; have hb1 : Below W0.heap.size W0 w1 := below_grown (by repeat (first | assumption | exact Below.refl _ _ | refine Below.drew ?_ | refine below_alloc' ?_)) hgrow1 (fun q hq => lit_block (by omega) hq); clear tokB _t; have tokD : True := trivial)
                    | (have _t := tokD; refine step_append_row (by rfl) _ _ _ (by rfl) W0.heap.size 3 i0 (.int .i64 0) 8 Try.underlying34 hi hz0 hz1 hz2 rfl v1 (0 + k) ([] ++ ((os.map (Value.int .i64)).take k)) (by rfl) (by first | exact hown1 | exact hown1.alloc _ | exact (hown1.alloc _).drew) _ 1 1 [.int .i64 u] (by rfl) (by first | exact row_lit (heap_alloc_new _ _) | exact row_lit (heap_grown hgrow1 (heap_second _ _ _) (by simp [Value.ownBlock])) | exact row_lit (heap_grown hgrow1 (heap_first _ _ _) (by simp [Value.ownBlock]))) rfl (by intro q hq; simp at hq; subst hq; rfl) (by unfold maxLen; omega) (by omega) (below_size' (by repeat (first | assumption | exact Below.refl _ _ | refine Below.drew ?_ | refine below_alloc' ?_))) ?_; intro v2 w2 hown2 hgrow2 hat2; have hb2 : Below W0.heap.size W0 w2 := below_grown (by repeat (first | assumption | exact Below.refl _ _ | refine Below.drew ?_ | refine below_alloc' ?_)) hgrow2 (fun q hq => (hown1.lt q hq).1); clear tokD _t; have tokE : True := trivial)
                    | (have _t := tokE; refine step_append_row (by rfl) _ _ _ (by rfl) W0.heap.size 3 i0 (.int .i64 0) 8 Try.underlying34 hi hz0 hz1 hz2 rfl v2 (0 + k + 1) ([] ++ ((os.map (Value.int .i64)).take k) ++ [.int .i64 u]) (by rfl) (by first | exact hown2 | exact hown2.alloc _ | exact (hown2.alloc _).drew) ⟨g, 0, none⟩ 0 0 [] (by rfl) (HT0.out.below (by repeat (first | assumption | exact Below.refl _ _ | refine Below.drew ?_ | refine below_alloc' ?_)) (Nat.le_refl _)) rfl (by simp) (by unfold maxLen; omega) (by omega) (below_size' (by repeat (first | assumption | exact Below.refl _ _ | refine Below.drew ?_ | refine below_alloc' ?_))) ?_; intro v3 w3 hown3 hgrow3 hat3; have hb3 : Below W0.heap.size W0 w3 := below_grown (by repeat (first | assumption | exact Below.refl _ _ | refine Below.drew ?_ | refine below_alloc' ?_)) hgrow3 (fun q hq => (hown2.lt q hq).1); clear tokE _t; have tokF : True := trivial))
                all_goals go_wp2_with fail
                all_goals
                  have hv3 := own_form hown3 (by omega)
                  have ho3 := ins_own HPF.out HSL.out (by omega) rfl HZ0.out (by omega) (own_base hown3 HB0.out.size)
                  rw [← HST.out] at ho3
                  have hq3 := HB0.out.trans (hb3.mono HB0.out.size)
                  obtain ⟨g3, c3, rfl⟩ := hv3
                  have HO3 := Lib.hid ho3
                  have HQ3 := Lib.hid hq3
                  clear ho3 hq3 hown1 hown2 hown3 hgrow1 hgrow2 hgrow3 hat1 hat2 hat3 hb1 hb2 hb3
                  go_roundw
                  case rel => exact ⟨j + 1, g3, c3, by omega, by go_num, by first | rfl | (congr 1; omega), by first | exact HO3.out | (have h := HO3.out; simpa using h), HQ3.out⟩
                  case measure => (first | (simp [intOf]; done) | (simp [intOf]; omega))
              · have HH0 := Lib.hid (row_head' (row_own HO0.out) hk)
                have HT0 := Lib.hid (row_tail' (row_own HO0.out) hk)
                rw [Nat.zero_add] at HT0
                go_region_held3 (fun w' => w'.cell? ⟨lb, lo + j, none⟩ = some (.int .i64 u) ∧ Below W0.heap.size W0 w')
                  ((refine keep_cell hlu0 hlb0 ?_; repeat (first | assumption | exact Below.refl _ _ | refine Below.drew ?_ | refine below_alloc' ?_)))
                  (first
                    | (have _t := tokB; refine step_append_row (by rfl) _ _ _ (by rfl) W0.heap.size 3 i0 (.int .i64 0) 8 Try.underlying34 hi hz0 hz1 hz2 rfl _ 0 [] (by rfl) (own_lit (by first | exact heap_alloc_new _ _ | exact heap_first _ _ _ | exact heap_second _ _ _) (by omega)) ⟨g, 0, none⟩ k ocap ((os.map (Value.int .i64)).take k) (by rfl) (HH0.out.below (by repeat (first | assumption | exact Below.refl _ _ | refine Below.drew ?_ | refine below_alloc' ?_)) (Nat.le_refl _)) (by rw [List.length_take, List.length_map, HSL.out]; omega) (fun q hq => one_ints os q (List.mem_of_mem_take hq)) (by unfold maxLen; omega) (by omega) (below_size' (by repeat (first | assumption | exact Below.refl _ _ | refine Below.drew ?_ | refine below_alloc' ?_))) ?_; intro v1 w1 hown1 hgrow1 hat1; have hb1 : Below W0.heap.size W0 w1 := below_grown (by repeat (first | assumption | exact Below.refl _ _ | refine Below.drew ?_ | refine below_alloc' ?_)) hgrow1 (fun q hq => lit_block (by omega) hq); clear tokB _t; have tokD : True := trivial)
                    | (have _t := tokD; refine step_append_row (by rfl) _ _ _ (by rfl) W0.heap.size 3 i0 (.int .i64 0) 8 Try.underlying34 hi hz0 hz1 hz2 rfl v1 (0 + k) ([] ++ ((os.map (Value.int .i64)).take k)) (by rfl) (by first | exact hown1 | exact hown1.alloc _ | exact (hown1.alloc _).drew) _ 1 1 [.int .i64 u] (by rfl) (by first | exact row_lit (heap_alloc_new _ _) | exact row_lit (heap_grown hgrow1 (heap_second _ _ _) (by simp [Value.ownBlock])) | exact row_lit (heap_grown hgrow1 (heap_first _ _ _) (by simp [Value.ownBlock]))) rfl (by intro q hq; simp at hq; subst hq; rfl) (by unfold maxLen; omega) (by omega) (below_size' (by repeat (first | assumption | exact Below.refl _ _ | refine Below.drew ?_ | refine below_alloc' ?_))) ?_; intro v2 w2 hown2 hgrow2 hat2; have hb2 : Below W0.heap.size W0 w2 := below_grown (by repeat (first | assumption | exact Below.refl _ _ | refine Below.drew ?_ | refine below_alloc' ?_)) hgrow2 (fun q hq => (hown1.lt q hq).1); clear tokD _t; have tokE : True := trivial)
                    | (have _t := tokE; refine step_append_row (by rfl) _ _ _ (by rfl) W0.heap.size 3 i0 (.int .i64 0) 8 Try.underlying34 hi hz0 hz1 hz2 rfl v2 (0 + k + 1) ([] ++ ((os.map (Value.int .i64)).take k) ++ [.int .i64 u]) (by rfl) (by first | exact hown2 | exact hown2.alloc _ | exact (hown2.alloc _).drew) ⟨g, k, none⟩ (j - k) (ocap - k) ((os.map (Value.int .i64)).drop k) (by rfl) (HT0.out.below (by repeat (first | assumption | exact Below.refl _ _ | refine Below.drew ?_ | refine below_alloc' ?_)) (Nat.le_refl _)) (by rw [List.length_drop, List.length_map, HSL.out]; try omega) (fun q hq => one_ints os q (List.mem_of_mem_drop hq)) (by unfold maxLen; omega) (by omega) (below_size' (by repeat (first | assumption | exact Below.refl _ _ | refine Below.drew ?_ | refine below_alloc' ?_))) ?_; intro v3 w3 hown3 hgrow3 hat3; have hb3 : Below W0.heap.size W0 w3 := below_grown (by repeat (first | assumption | exact Below.refl _ _ | refine Below.drew ?_ | refine below_alloc' ?_)) hgrow3 (fun q hq => (hown2.lt q hq).1); clear tokE _t; have tokF : True := trivial))
                all_goals go_wp2_with fail
                all_goals
                  have hv3 := own_form hown3 (by omega)
                  have ho3 := ins_own HPF.out HSL.out (by omega) rfl rfl (by omega) (own_base hown3 HB0.out.size)
                  rw [← HST.out] at ho3
                  have hq3 := HB0.out.trans (hb3.mono HB0.out.size)
                  obtain ⟨g3, c3, rfl⟩ := hv3
                  have HO3 := Lib.hid ho3
                  have HQ3 := Lib.hid hq3
                  clear ho3 hq3 hown1 hown2 hown3 hgrow1 hgrow2 hgrow3 hat1 hat2 hat3 hb1 hb2 hb3
                  go_roundw
                  case rel => exact ⟨j + 1, g3, c3, by omega, by go_num, by first | rfl | (congr 1; omega), by first | exact HO3.out | (have h := HO3.out; simpa using h), HQ3.out⟩
                  case measure => (first | (simp [intOf]; done) | (simp [intOf]; omega))
            · obtain rfl : k = 0 := by omega
              have hkd : decide (((0 : Nat) : Int) > 0) = false := decide_eq_false (by omega)
              have hkd' : ¬ (0 : Int) < ((0 : Nat) : Int) := by omega
              have hlu2 : wr.cell? ⟨lb, lo + j, none⟩ = some (.int .i64 u) := by obtain ⟨d, hd⟩ := HW.out; rw [hd]; exact hlu
              clear hgo
              go_wp2_with fail
              go_quiet (fail)
              go_wp2_with fail
              obtain ⟨W0, d0, hd0, hd1⟩ : ∃ (W0 : World) (d : Nat), W0 = wo.drewN d ∧ W0 = wr.drewN nq := by obtain ⟨d, hd⟩ := HW.out; exact ⟨_, d + nq, by rw [hd, World.drewN_drewN], rfl⟩
              rw [← hd1]
              have hlu0 : W0.cell? ⟨lb, lo + j, none⟩ = some (.int .i64 u) := by rw [hd0]; exact hlu
              have HO0 : Hid (W0.ownsRow w.heap.size 3 1 (.slice (some ⟨g, 0, none⟩) j ocap) j (os.map (Value.int .i64))) := Lib.hid (by rw [hd0]; exact own_below HOwn.out (bdrew _ _) (Nat.le_refl _))
              have HB0 : Hid (Below w.heap.size w W0) := Lib.hid (by rw [hd0]; exact HBel.out.trans ((bdrew _ _).mono HBel.out.size))
              have hlb0 : lb < W0.heap.size := World.block_lt_of_cell? W0 _ hlu0
              have j0 : (0 : Int) ≤ (j : Int) := by omega
              have j1 : (j : Int) < (n : Int) := by omega
              clear hd0 hd1 hlu HW
              have tokB : True := trivial
              have k1 : (0 : Int) ≤ (ocap : Int) := by omega
              have HH0 := Lib.hid (row_head' (k := 0) (row_own HO0.out) (Nat.zero_le _))
              have HT0 := Lib.hid (row_tail' (k := 0) (row_own HO0.out) (Nat.zero_le _))
              go_region_held3 (fun w' => w'.cell? ⟨lb, lo + j, none⟩ = some (.int .i64 u) ∧ Below W0.heap.size W0 w')
                ((refine keep_cell hlu0 hlb0 ?_; repeat (first | assumption | exact Below.refl _ _ | refine Below.drew ?_ | refine below_alloc' ?_)))
                (first
                  | (have _t := tokB; refine step_append_row (by rfl) _ _ _ (by rfl) W0.heap.size 3 i0 (.int .i64 0) 8 Try.underlying34 hi hz0 hz1 hz2 rfl _ 0 [] (by rfl) (own_lit (by first | exact heap_alloc_new _ _ | exact heap_first _ _ _ | exact heap_second _ _ _) (by omega)) ⟨g, 0, none⟩ 0 ocap ((os.map (Value.int .i64)).take 0) (by rfl) (HH0.out.below (by repeat (first | assumption | exact Below.refl _ _ | refine Below.drew ?_ | refine below_alloc' ?_)) (Nat.le_refl _)) (by rw [List.length_take, List.length_map, HSL.out]; omega) (fun q hq => one_ints os q (List.mem_of_mem_take hq)) (by unfold maxLen; omega) (by omega) (below_size' (by repeat (first | assumption | exact Below.refl _ _ | refine Below.drew ?_ | refine below_alloc' ?_))) ?_; intro v1 w1 hown1 hgrow1 hat1; have hb1 : Below W0.heap.size W0 w1 := below_grown (by repeat (first | assumption | exact Below.refl _ _ | refine Below.drew ?_ | refine below_alloc' ?_)) hgrow1 (fun q hq => lit_block (by omega) hq); clear tokB _t; have tokD : True := trivial)
                  | (have _t := tokD; refine step_append_row (by rfl) _ _ _ (by rfl) W0.heap.size 3 i0 (.int .i64 0) 8 Try.underlying34 hi hz0 hz1 hz2 rfl v1 (0 + 0) ([] ++ ((os.map (Value.int .i64)).take 0)) (by rfl) (by first | exact hown1 | exact hown1.alloc _ | exact (hown1.alloc _).drew) _ 1 1 [.int .i64 u] (by rfl) (by first | exact row_lit (heap_alloc_new _ _) | exact row_lit (heap_grown hgrow1 (heap_second _ _ _) (by simp [Value.ownBlock])) | exact row_lit (heap_grown hgrow1 (heap_first _ _ _) (by simp [Value.ownBlock]))) rfl (by intro q hq; simp at hq; subst hq; rfl) (by unfold maxLen; omega) (by omega) (below_size' (by repeat (first | assumption | exact Below.refl _ _ | refine Below.drew ?_ | refine below_alloc' ?_))) ?_; intro v2 w2 hown2 hgrow2 hat2; have hb2 : Below W0.heap.size W0 w2 := below_grown (by repeat (first | assumption | exact Below.refl _ _ | refine Below.drew ?_ | refine below_alloc' ?_)) hgrow2 (fun q hq => (hown1.lt q hq).1); clear tokD _t; have tokE : True := trivial)
                  | (have _t := tokE; refine step_append_row (by rfl) _ _ _ (by rfl) W0.heap.size 3 i0 (.int .i64 0) 8 Try.underlying34 hi hz0 hz1 hz2 rfl v2 (0 + 0 + 1) ([] ++ ((os.map (Value.int .i64)).take 0) ++ [.int .i64 u]) (by rfl) (by first | exact hown2 | exact hown2.alloc _ | exact (hown2.alloc _).drew) ⟨g, 0, none⟩ j ocap ((os.map (Value.int .i64)).drop 0) (by rfl) (HT0.out.below (by repeat (first | assumption | exact Below.refl _ _ | refine Below.drew ?_ | refine below_alloc' ?_)) (Nat.le_refl _)) (by rw [List.length_drop, List.length_map, HSL.out]; try omega) (fun q hq => one_ints os q (List.mem_of_mem_drop hq)) (by unfold maxLen; omega) (by omega) (below_size' (by repeat (first | assumption | exact Below.refl _ _ | refine Below.drew ?_ | refine below_alloc' ?_))) ?_; intro v3 w3 hown3 hgrow3 hat3; have hb3 : Below W0.heap.size W0 w3 := below_grown (by repeat (first | assumption | exact Below.refl _ _ | refine Below.drew ?_ | refine below_alloc' ?_)) hgrow3 (fun q hq => (hown2.lt q hq).1); clear tokE _t; have tokF : True := trivial))
              all_goals go_wp2_with fail
              all_goals
                have hv3 := own_form hown3 (by omega)
                have ho3 := ins_own HPF.out HSL.out (by omega) rfl rfl (by omega) (own_base hown3 HB0.out.size)
                rw [← HST.out] at ho3
                have hq3 := HB0.out.trans (hb3.mono HB0.out.size)
                obtain ⟨g3, c3, rfl⟩ := hv3
                have HO3 := Lib.hid ho3
                have HQ3 := Lib.hid hq3
                clear ho3 hq3 hown1 hown2 hown3 hgrow1 hgrow2 hgrow3 hat1 hat2 hat3 hb1 hb2 hb3
                go_roundw
                case rel => exact ⟨j + 1, g3, c3, by omega, by go_num, by first | rfl | (congr 1; omega), by first | exact HO3.out | (have h := HO3.out; simpa using h), HQ3.out⟩
                case measure => (first | (simp [intOf]; done) | (simp [intOf]; omega))
      · obtain rfl : j = n := by omega
        have hfull : xs.take j = xs := by rw [HN.out, List.take_of_length_le (Nat.le_refl _)]
        rw [hfull] at hown
        go_wp2_with fail
        go_ret2
        exact ⟨_, rfl, hown, hbel⟩
end Go.Proofs.Ytfdpjgjclbnnfaa
