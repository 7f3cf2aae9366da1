/-
  Trees: the specification's NodesBelow, FaceTo, MeetingNode.
-/
import Derived.Test.YtejdphfcogfcmaaTree4
import Derived.Test.YtejdphfcogfcmaaTreeMath2
import Derived.Deep.RegionHeld3
namespace Go.Proofs.Ytejdphfcogfcmaa
open Go.RowKit Go.Lib Go.Joins
set_option linter.unusedVariables false

/-- A path to a node of the tree, whatever the node's spelling. -/
theorem l6PathI_any (v : Value) (p : List Int) (x : Int) (w : World) (hrow : Row w v p.length (p.map (Value.int .i64))) (h : ndOk p x = true) :
    Calls Try.prog 48 #[.agg #[v], .int .i64 x] w fun e w' => ∃ g c, e = .returned (.slice (some ⟨g, 0, none⟩) (pth p x).length c) ∧ OutI w w' g c (pth p x) := by
  obtain ⟨h1, h2, h3⟩ := ndOk_parts h
  obtain ⟨k, rfl⟩ : ∃ k : Nat, x = (k : Int) := ⟨x.toNat, by omega⟩
  exact l6Path_any v p k w hrow h1 (by omega)
theorem ndOk_nat {p : List Int} (h : trOk p = true) {k : Nat} (hk : k < p.length) : ndOk p (k : Int) = true := by
  unfold ndOk
  rw [h, decide_eq_true (show (0 : Int) ≤ (k : Int) by omega), decide_eq_true (show (k : Int) ≤ (p.length : Int) - 1 by omega)]
  rfl
set_option maxHeartbeats 2000000 in
theorem specBelow_any (v : Value) (p : List Int) (x : Int) (w : World) (hrow : Row w v p.length (p.map (Value.int .i64))) :
    Calls Try.prog 18 #[.agg #[v], .int .i64 x] w fun e w' => ∃ g c, e = .returned (.tuple #[.slice (some ⟨g, 0, none⟩) (okL (ndOk p x) (nbl p x)).length c, .bool (ndOk p x)]) ∧ OutI w w' g c (okL (ndOk p x) (nbl p x)) := by
  obtain ⟨i0, hi, hz0, hz1, hz2⟩ := info_parts infoInt
  obtain ⟨W, hW⟩ : ∃ W, W = w.alloc (.cells #[v] 26) := ⟨_, rfl⟩
  have HT : Hid (Tr W w.heap.size v p) := Lib.hid (by rw [hW]; exact Tr.new hrow)
  have HB : Hid (Below w.heap.size w W) := Lib.hid (by rw [hW]; exact (Below.refl w.heap.size w).alloc (Nat.le_refl _) _)
  have HW := Lib.hid hW
  have HS := Lib.hid (OutI.start W)
  have HTs := Lib.hid (HT.out.below HS.out.bel)
  have HG := Lib.hid (l6Node_any v p x (W.alloc (.cells #[] 3)) HTs.out.row)
  have HOk := Lib.hid (fun (h : ndOk p x = true) => (ndOk_parts h).1)
  obtain ⟨a, cap, rfl, hc1, hm1, _⟩ := row_open hrow
  unfold maxLen at hm1
  have hx := HT.out.cell
  obtain ⟨R, hR⟩ : ∃ R, R = w.heap.size := ⟨_, rfl⟩
  rw [← hR] at HT HTs hx
  have HR := Lib.hid hR
  clear hW hrow hR
  have hlt := HT.out.lt
  cases ok : ndOk p x with
  | false =>
    rw [ok] at HG
    clear HOk ok
    go_enter Try.func18, Try.ntmps18
    go_upto_region 1 with fail
    rw [← HW.out, ← HR.out]
    go_wp2_with fail
    refine HG.out.mono ?_
    rintro e W2 ⟨rfl, l2⟩
    have HO2 := Lib.hid ((HS.out.below l2).base HB.out)
    clear l2
    go_wp2_with fail
    go_ret2
    exact ⟨_, _, rfl, HO2.out⟩
  | true =>
    rw [ok] at HG
    have hok := HOk.out ok
    have HPth := Lib.hid (fun (k : Nat) (hk : k < p.length) (W1 : World) hr => l6PathI_any (.slice a p.length cap) p (k : Int) W1 hr (ndOk_nat hok hk))
    have h8 := (trOk_parts hok).2.1
    clear HOk ok hok
    obtain ⟨n, hN⟩ : ∃ n, n = p.length := ⟨_, rfl⟩
    rw [← hN] at hc1 HT HTs HW HG hx h8 HPth ⊢
    have HN := Lib.hid hN
    have HGo : Hid (pick6 (nbB p x) n = okL true (nbl p x)) := Lib.hid (by rw [hN]; rfl)
    clear hN
    generalize okL true (nbl p x) = goal at HGo ⊢
    go_enter Try.func18, Try.ntmps18
    go_upto_region 1 with fail
    rw [← HW.out, ← HR.out]
    go_wp2_with fail
    refine HG.out.mono ?_
    rintro e W2 ⟨rfl, l2⟩
    have HS2 := Lib.hid (HS.out.below l2)
    clear l2 HS hx HTs
    have hx := (HT.out.below HS2.out.bel).cell
    go_wp2_with fail
    go_loopw [6, 7] (fun o i wr => ∃ (k g c : Nat) (zs : List Int), k ≤ n ∧ i = .int .i64 k ∧ o = .slice (some ⟨g, 0, none⟩) zs.length c ∧ zs.length ≤ k ∧ Hid (zs = pick6 (nbB p x) k) ∧ Hid (OutI W wr g c zs)) (fun _ i _ => n - (RowKit.intOf i).toNat)
    case atStart => exact ⟨0, _, _, [], Nat.zero_le _, rfl, rfl, by simp, Lib.hid rfl, HS2⟩
    case round =>
      clear HS2 hx
      obtain ⟨k, g, c, zs, hk, rfl, rfl, hzl, HZ, HO⟩ := hrel
      have HTr := Lib.hid (HT.out.below HO.out.bel)
      have hx := HTr.out.cell
      by_cases hkn : k < n
      · have HP1 := Lib.hid (HPth.out k hkn wr (by have h := HTr.out.row; rw [← HN.out] at h; exact h))
        have HY : Hid (nbB p x k = true → pick6 (nbB p x) (k + 1) = pick6 (nbB p x) k ++ [(k : Int)]) := Lib.hid (fun h => pick6_yes h)
        have HNo : Hid (nbB p x k = false → pick6 (nbB p x) (k + 1) = pick6 (nbB p x) k) := Lib.hid (fun h => pick6_no h)
        have HHas := Lib.hid (fun (u : Value) (W1 : World) hr => (show Calls Try.prog 52 #[u, .int .i64 x] W1 fun e w' => e = .returned (.bool (nbB p x k)) ∧ W1 = w' from l1Has_any u (pth p (k : Int)) x W1 hr))
        generalize nbB p x k = bb at HY HNo HHas
        go_wp2_with fail
        refine HP1.out.mono ?_
        rintro e w3 ⟨g3, c3, rfl, o3⟩
        have HO3 := Lib.hid (HO.out.below o3.bel)
        have HR3 := Lib.hid o3.row
        have hws := HO3.out.bel.size
        clear o3 HP1
        go_wp2_with fail
        refine (HHas.out _ _ HR3.out).mono ?_
        rintro e _ ⟨rfl, rfl⟩
        clear HHas HR3
        cases bb with
        | true =>
          have HZ2 := Lib.hid (HY.out rfl)
          clear HY HNo
          go_wp2_with (at_builtin; refine wpList_append_own _ rfl _ _ 24 rfl W.heap.size 3 i0 (.int .i64 0) 1 8 Try.underlying24 hi hz0 hz1 hz2 rfl (by decide) _ _ _ rfl (HO3.out.own.alloc _) ⟨w3.heap.size, 0, none⟩ 1 1 [.int .i64 k] rfl rfl (cell_one_new _ _ _) (by intro u hu; simp at hu; subst hu; rfl) (by unfold maxLen; omega) (by omega) (by simp; omega) ?_; intro v' w4 hown' hgrow hiff; obtain ⟨zs5, hz5⟩ : ∃ z, z = zs ++ [(k : Int)] := ⟨_, rfl⟩; obtain ⟨g5, c5, rfl, hs5⟩ := HO3.out.app hz5 hown' hgrow; have HS5 := Lib.hid hs5; have HZ5 := Lib.hid hz5; clear hown' hgrow hiff hs5 hz5)
          go_roundw
          case rel => exact ⟨k + 1, g5, c5, zs5, by omega, by go_num, rfl, by rw [HZ5.out, List.length_append]; simp only [List.length_cons, List.length_nil]; omega, Lib.hid (by rw [HZ5.out, HZ.out, HZ2.out]), HS5⟩
          case measure => (simp [RowKit.intOf]; omega)
        | false =>
          have HZ2 := Lib.hid (HNo.out rfl)
          clear HY HNo
          go_wp2_with fail
          go_roundw
          case rel => exact ⟨k + 1, g, c, zs, by omega, by go_num, rfl, by omega, Lib.hid (by rw [HZ2.out]; exact HZ.out), HO3⟩
          case measure => (simp [RowKit.intOf]; omega)
      · obtain rfl : k = n := by omega
        have HE : Hid (zs = goal) := Lib.hid (by rw [HZ.out, ← HGo.out])
        go_wp2_with fail
        go_ret2
        exact ⟨g, c, by rw [← HE.out]; rfl, by rw [← HE.out]; exact HO.out.base HB.out⟩
theorem next_drop {n : Int} {l : List Int} {i : Nat} (h : i + 1 < l.length) : nextOf n (l.drop i) = if l[i] = n then some l[i + 1] else nextOf n (l.drop (i + 1)) := by
  rw [List.drop_eq_getElem_cons (show i < l.length by omega), List.drop_eq_getElem_cons h]
  rfl
theorem next_short {n : Int} {l : List Int} {i : Nat} (h : ¬ i + 1 < l.length) : nextOf n (l.drop i) = none := by
  have hl : (l.drop i).length ≤ 1 := by rw [List.length_drop]; omega
  match l.drop i, hl with
  | [], _ => rfl
  | [_], _ => rfl
  | _ :: _ :: _, h => simp at h
set_option maxRecDepth 100000 in
set_option maxHeartbeats 2000000 in
theorem specFace_any (v : Value) (p : List Int) (x y : Int) (w : World) (hrow : Row w v p.length (p.map (Value.int .i64))) :
    Calls Try.prog 25 #[.agg #[v], .int .i64 x, .int .i64 y] w fun e w' => e = .returned (.tuple #[.int .i64 (faceV p x y), .bool (faceOk p x y)]) ∧ Below w.heap.size w w' := by
  obtain ⟨W, hW⟩ : ∃ W, W = w.alloc (.cells #[v] 26) := ⟨_, rfl⟩
  have HT : Hid (Tr W w.heap.size v p) := Lib.hid (by rw [hW]; exact Tr.new hrow)
  have HB : Hid (Below w.heap.size w W) := Lib.hid (by rw [hW]; exact (Below.refl w.heap.size w).alloc (Nat.le_refl _) _)
  have HW := Lib.hid hW
  have HG1 := Lib.hid (fun (W1 : World) hr => l6Node_any v p x W1 hr)
  have HG2 := Lib.hid (fun (W1 : World) hr => l6Node_any v p y W1 hr)
  have HP := Lib.hid (fun (h : ndOk p y = true) (W1 : World) hr => l6PathI_any v p y W1 hr h)
  have HPl := Lib.hid (fun (h : ndOk p y = true) => (show (pth p y).length ≤ 8 by
    obtain ⟨h1, h2, h3⟩ := ndOk_parts h
    obtain ⟨k, rfl⟩ : ∃ k : Nat, y = (k : Int) := ⟨y.toNat, by omega⟩
    have := pth_len h1 k (by omega)
    have := (trOk_parts h1).2.1
    omega))
  obtain ⟨a, cap, rfl, hc1, hm1, _⟩ := row_open hrow
  unfold maxLen at hm1
  have hx := HT.out.cell
  obtain ⟨R, hR⟩ : ∃ R, R = w.heap.size := ⟨_, rfl⟩
  rw [← hR] at HT hx
  have HR := Lib.hid hR
  clear hW hrow hR
  have HV : Hid (faceOk p x y = ((ndOk p x && (ndOk p y && decide (x ≠ y))) && (nextOf x (pth p y)).isSome) ∧ faceV p x y = if faceOk p x y = true then (nextOf x (pth p y)).getD 0 else 0) := Lib.hid ⟨rfl, rfl⟩
  generalize faceOk p x y = fo at HV ⊢
  generalize faceV p x y = fv at HV ⊢
  generalize pth p y = L at HV HP HPl
  generalize ndOk p x = n1 at HG1 HV
  generalize ndOk p y = n2 at HG2 HP HPl HV
  cases n1 with
  | false =>
    obtain ⟨e0, e2⟩ := HV.out
    have e1 : fo = false := e0
    clear e0
    subst e1
    have HE : Hid (fv = 0) := Lib.hid e2
    clear e2 HV HP HPl HG2
    go_enter Try.func25, Try.ntmps25
    go_upto_region 1 with fail
    rw [← HW.out, ← HR.out]
    go_wp2_with fail
    refine (HG1.out _ HT.out.row).mono ?_
    rintro e W2 ⟨rfl, l2⟩
    have HB2 := Lib.hid (HB.out.trans (l2.mono HB.out.size))
    clear l2
    go_wp2_with fail
    go_ret2
    exact ⟨by rw [HE.out]; rfl, HB2.out⟩
  | true =>
    cases n2 with
    | false =>
      obtain ⟨e0, e2⟩ := HV.out
      have e1 : fo = false := e0
      clear e0
      subst e1
      have HE : Hid (fv = 0) := Lib.hid e2
      clear e2 HV HP HPl
      go_enter Try.func25, Try.ntmps25
      go_upto_region 1 with fail
      rw [← HW.out, ← HR.out]
      go_wp2_with fail
      refine (HG1.out _ HT.out.row).mono ?_
      rintro e W2 ⟨rfl, l2⟩
      have HB2 := Lib.hid (HB.out.trans (l2.mono HB.out.size))
      have HT2 := Lib.hid (HT.out.below l2)
      clear l2 hx
      have hx := HT2.out.cell
      go_wp2_with fail
      refine (HG2.out _ HT2.out.row).mono ?_
      rintro e W3 ⟨rfl, l3⟩
      have HB3 := Lib.hid (HB2.out.trans (l3.mono HB2.out.size))
      clear l3
      go_wp2_with fail
      go_ret2
      exact ⟨by rw [HE.out]; rfl, HB3.out⟩
    | true =>
      have HP2 := Lib.hid (HP.out rfl)
      have hPl := HPl.out rfl
      clear HP HPl
      by_cases hxy : x = y
      · subst hxy
        obtain ⟨e0, e2⟩ := HV.out
        have e1 : fo = false := by rw [e0]; simp
        clear e0
        subst e1
        have HE : Hid (fv = 0) := Lib.hid e2
        clear e2 HV HP2 hPl
        go_enter Try.func25, Try.ntmps25
        go_upto_region 1 with fail
        rw [← HW.out, ← HR.out]
        go_wp2_with fail
        refine (HG1.out _ HT.out.row).mono ?_
        rintro e W2 ⟨rfl, l2⟩
        have HB2 := Lib.hid (HB.out.trans (l2.mono HB.out.size))
        have HT2 := Lib.hid (HT.out.below l2)
        clear l2 hx
        have hx := HT2.out.cell
        go_wp2_with fail
        refine (HG2.out _ HT2.out.row).mono ?_
        rintro e W3 ⟨rfl, l3⟩
        have HB3 := Lib.hid (HB2.out.trans (l3.mono HB2.out.size))
        clear l3
        go_wp2_with fail
        go_ret2
        exact ⟨by rw [HE.out]; rfl, HB3.out⟩
      · have HF : Hid (fo = (nextOf x L).isSome ∧ fv = if fo = true then (nextOf x L).getD 0 else 0) := Lib.hid ⟨by rw [HV.out.1, decide_eq_true hxy]; rfl, HV.out.2⟩
        have hne : (x == y) = false := by simp; exact hxy
        clear HV hxy
        go_enter Try.func25, Try.ntmps25
        go_upto_region 1 with fail
        rw [← HW.out, ← HR.out]
        go_wp2_with fail
        refine (HG1.out _ HT.out.row).mono ?_
        rintro e W2 ⟨rfl, l2⟩
        have HB2 := Lib.hid (HB.out.trans (l2.mono HB.out.size))
        have HT2 := Lib.hid (HT.out.below l2)
        clear l2 hx
        have hx := HT2.out.cell
        go_wp2_with fail
        refine (HG2.out _ HT2.out.row).mono ?_
        rintro e W3 ⟨rfl, l3⟩
        have HB3 := Lib.hid (HB2.out.trans (l3.mono HB2.out.size))
        have HT3 := Lib.hid (HT2.out.below l3)
        clear l3 hx HT2
        have hx := HT3.out.cell
        go_wp2_with fail
        refine (HP2.out _ HT3.out.row).mono ?_
        rintro e W4 ⟨g, c, rfl, o4⟩
        have HB4 := Lib.hid (o4.base HB3.out).bel
        have HO4 := Lib.hid o4
        clear o4 hx HT3
        obtain ⟨m, hM⟩ : ∃ m, m = L.length := ⟨_, rfl⟩
        rw [← hM] at hPl ⊢
        have HM := Lib.hid hM
        clear hM
        go_wp2_with fail
        go_loop [9] (fun i => ∃ k : Nat, k ≤ 8 ∧ i = .int .i64 k ∧ (k ≤ m) ∧ Hid (nextOf x (L.drop k) = nextOf x L)) (fun i => m - (RowKit.intOf i).toNat)
        case atStart => exact ⟨0, by omega, rfl, by omega, Lib.hid rfl⟩
        case round =>
          obtain ⟨k, hk8, rfl, hkm, HD⟩ := hrel
          by_cases hk : k + 1 < m
          · have hkL : k + 1 < L.length := by rw [← HM.out]; exact hk
            have hd : decide ((k : Int) + 1 < (m : Int)) = true := decide_eq_true (by omega)
            have hc0 := HO4.out.own.cells (g := g) rfl k (.int .i64 L[k]) (by rw [List.getElem?_map, List.getElem?_eq_getElem (show k < L.length by omega)]; rfl)
            have hc1 := HO4.out.own.cells (g := g) rfl (k + 1) (.int .i64 L[k + 1]) (by rw [List.getElem?_map, List.getElem?_eq_getElem hkL]; rfl)
            rw [addr_add, Nat.zero_add] at hc0 hc1
            have HN := Lib.hid (next_drop (n := x) hkL)
            generalize L[k] = q at hc0 HN
            generalize L[k + 1] = q1 at hc1 HN
            clear hkL
            by_cases hqx : q = x
            · subst hqx
              have HE : Hid (fo = true ∧ fv = q1) := Lib.hid (by
                have h := HN.out
                rw [if_pos rfl, HD.out] at h
                have h2 := HF.out
                rw [h] at h2
                have e1 : fo = true := h2.1
                refine ⟨e1, ?_⟩
                rw [h2.2, e1]; rfl)
              clear HN HF
              go_wp2_with fail
              go_ret2
              exact ⟨by rw [HE.out.1, HE.out.2]; rfl, HB4.out⟩
            · have HD2 : Hid (nextOf x (L.drop (k + 1)) = nextOf x L) := Lib.hid (by
                have h := HN.out
                rw [if_neg hqx, HD.out] at h
                exact h.symm)
              have hqe : (q == x) = false := by simp; exact hqx
              clear HN hqx
              go_wp2_with fail
              go_round
              case rel => exact ⟨k + 1, by omega, by go_num, by omega, HD2⟩
              case measure => (simp [RowKit.intOf]; omega)
          · have hd : decide ((k : Int) + 1 < (m : Int)) = false := decide_eq_false (by omega)
            have HE : Hid (fo = false ∧ fv = 0) := Lib.hid (by
              have h := HD.out
              rw [next_short (n := x) (l := L) (i := k) (by rw [← HM.out]; exact hk)] at h
              have h2 := HF.out
              rw [← h] at h2
              have e1 : fo = false := h2.1
              refine ⟨e1, ?_⟩
              rw [h2.2, e1]; rfl)
            clear HF
            go_wp2_with fail
            go_ret2
            exact ⟨by rw [HE.out.1, HE.out.2]; rfl, HB4.out⟩
theorem meet_drop {p : List Int} {b : Int} {L : List Int} {k : Nat} (hk : k < L.length) (last : Int) : (L.drop k).foldl (fun last x => if x ∈ pth p b then x else last) last = (L.drop (k + 1)).foldl (fun last x => if x ∈ pth p b then x else last) (if L[k] ∈ pth p b then L[k] else last) := by
  rw [List.drop_eq_getElem_cons hk, List.foldl_cons]
theorem below_call6 {W0 W w5 : World} (h : Below W0.heap.size W0 W) (l5 : Below W.heap.size W w5) : Below W0.heap.size W0 w5 := h.trans (l5.mono h.size)
theorem keep2m {W w' : World} {a1 a2 : Addr} {v1 v2 : Value} {B : Nat} (h1 : W.cell? a1 = some v1) (h2 : W.cell? a2 = some v2) (b1 : a1.block < B) (b2 : a2.block < B) (hb : Below B W w') :
    w'.cell? a1 = some v1 ∧ w'.cell? a2 = some v2 ∧ Below B W w' := ⟨(hb.cell b1).trans h1, (hb.cell b2).trans h2, hb⟩
def meetOk (p : List Int) (x y : Int) : Bool := ndOk p x && ndOk p y
def meetW (p : List Int) (x y : Int) : Int := if meetOk p x y = true then meetV p x y else 0
set_option maxRecDepth 100000 in
set_option maxHeartbeats 4000000 in
theorem specMeet_any (v : Value) (p : List Int) (x y : Int) (w : World) (hrow : Row w v p.length (p.map (Value.int .i64))) :
    Calls Try.prog 23 #[.agg #[v], .int .i64 x, .int .i64 y] w fun e w' => e = .returned (.tuple #[.int .i64 (meetW p x y), .bool (meetOk p x y)]) ∧ Below w.heap.size w w' := by
  obtain ⟨W, hW⟩ : ∃ W, W = w.alloc (.cells #[v] 26) := ⟨_, rfl⟩
  have HT : Hid (Tr W w.heap.size v p) := Lib.hid (by rw [hW]; exact Tr.new hrow)
  have HB : Hid (Below w.heap.size w W) := Lib.hid (by rw [hW]; exact (Below.refl w.heap.size w).alloc (Nat.le_refl _) _)
  have HW := Lib.hid hW
  have HG1 := Lib.hid (fun (W1 : World) hr => l6Node_any v p x W1 hr)
  have HG2 := Lib.hid (fun (W1 : World) hr => l6Node_any v p y W1 hr)
  have HPx := Lib.hid (fun (h : ndOk p x = true) (W1 : World) hr => l6PathI_any v p x W1 hr h)
  have HPy := Lib.hid (fun (h : ndOk p y = true) (W1 : World) hr => l6PathI_any v p y W1 hr h)
  have HPl := Lib.hid (fun (h : ndOk p x = true) => (show (pth p x).length ≤ 8 by
    obtain ⟨h1, h2, h3⟩ := ndOk_parts h
    obtain ⟨k, rfl⟩ : ∃ k : Nat, x = (k : Int) := ⟨x.toNat, by omega⟩
    have := pth_len h1 k (by omega)
    have := (trOk_parts h1).2.1
    omega))
  obtain ⟨a, cap, rfl, hc1, hm1, _⟩ := row_open hrow
  unfold maxLen at hm1
  have hx := HT.out.cell
  obtain ⟨R, hR⟩ : ∃ R, R = w.heap.size := ⟨_, rfl⟩
  rw [← hR] at HT hx
  have HR := Lib.hid hR
  clear hW hrow hR
  have HV : Hid (meetOk p x y = (ndOk p x && ndOk p y) ∧ meetW p x y = if meetOk p x y = true then ((pth p x).drop 0).foldl (fun last x => if x ∈ pth p y then x else last) 0 else 0) := Lib.hid ⟨rfl, rfl⟩
  generalize meetOk p x y = fo at HV ⊢
  generalize meetW p x y = fv at HV ⊢
  generalize ndOk p x = n1 at HG1 HV HPx HPl
  generalize ndOk p y = n2 at HG2 HPy HV
  cases n1 with
  | false =>
    obtain ⟨e0, e2⟩ := HV.out
    have e1 : fo = false := e0
    clear e0
    subst e1
    have HE : Hid (fv = 0) := Lib.hid e2
    clear e2 HV HPx HPy HPl HG2
    go_enter Try.func23, Try.ntmps23
    go_upto_region 1 with fail
    rw [← HW.out, ← HR.out]
    go_wp2_with fail
    refine (HG1.out _ HT.out.row).mono ?_
    rintro e W2 ⟨rfl, l2⟩
    have HB2 := Lib.hid (HB.out.trans (l2.mono HB.out.size))
    clear l2
    go_wp2_with fail
    go_ret2
    exact ⟨by rw [HE.out]; rfl, HB2.out⟩
  | true =>
    cases n2 with
    | false =>
      obtain ⟨e0, e2⟩ := HV.out
      have e1 : fo = false := e0
      clear e0
      subst e1
      have HE : Hid (fv = 0) := Lib.hid e2
      clear e2 HV HPx HPy HPl
      go_enter Try.func23, Try.ntmps23
      go_upto_region 1 with fail
      rw [← HW.out, ← HR.out]
      go_wp2_with fail
      refine (HG1.out _ HT.out.row).mono ?_
      rintro e W2 ⟨rfl, l2⟩
      have HB2 := Lib.hid (HB.out.trans (l2.mono HB.out.size))
      have HT2 := Lib.hid (HT.out.below l2)
      clear l2 hx
      have hx := HT2.out.cell
      go_wp2_with fail
      refine (HG2.out _ HT2.out.row).mono ?_
      rintro e W3 ⟨rfl, l3⟩
      have HB3 := Lib.hid (HB2.out.trans (l3.mono HB2.out.size))
      clear l3
      go_wp2_with fail
      go_ret2
      exact ⟨by rw [HE.out]; rfl, HB3.out⟩
    | true =>
      have HPx2 := Lib.hid (HPx.out rfl)
      have HPy2 := Lib.hid (HPy.out rfl)
      have hPl := HPl.out rfl
      clear HPx HPy HPl
      obtain ⟨e0, e2⟩ := HV.out
      have e1 : fo = true := e0
      clear e0
      subst e1
      rw [if_pos rfl] at e2
      have HE := Lib.hid e2
      clear e2 HV
      generalize pth p x = L at HE HPx2 hPl
      go_enter Try.func23, Try.ntmps23
      go_upto_region 1 with fail
      rw [← HW.out, ← HR.out]
      go_wp2_with fail
      refine (HG1.out _ HT.out.row).mono ?_
      rintro e W2 ⟨rfl, l2⟩
      have HB2 := Lib.hid (HB.out.trans (l2.mono HB.out.size))
      have HT2 := Lib.hid (HT.out.below l2)
      clear l2 hx
      have hx := HT2.out.cell
      go_wp2_with fail
      refine (HG2.out _ HT2.out.row).mono ?_
      rintro e W3 ⟨rfl, l3⟩
      have HB3 := Lib.hid (HB2.out.trans (l3.mono HB2.out.size))
      have HT3 := Lib.hid (HT2.out.below l3)
      clear l3 hx HT2
      have hx := HT3.out.cell
      go_wp2_with fail
      refine (HPx2.out _ HT3.out.row).mono ?_
      rintro e W4 ⟨g, c, rfl, o4⟩
      have HB4 := Lib.hid (o4.base HB3.out).bel
      have HT4 := Lib.hid (HT3.out.below o4.bel)
      have HO4 := Lib.hid o4
      have HS4 := Lib.hid (Below.refl W4.heap.size W4)
      clear o4 hx HT3
      obtain ⟨m, hM⟩ : ∃ m, m = L.length := ⟨_, rfl⟩
      rw [← hM] at hPl ⊢
      have HM := Lib.hid hM
      clear hM
      go_wp2_with fail
      go_loopw [8, 10] (fun o i wr => ∃ (k : Nat) (z : Int), k ≤ m ∧ i = .int .i64 k ∧ o = .int .i64 z ∧ Hid ((L.drop k).foldl (fun last x => if x ∈ pth p y then x else last) z = fv) ∧ Hid (Below W4.heap.size W4 wr)) (fun _ i _ => m - (RowKit.intOf i).toNat)
      case atStart => exact ⟨0, 0, by omega, rfl, rfl, Lib.hid HE.out.symm, HS4⟩
      case round =>
        clear HS4 HE
        obtain ⟨k, z, hkm, rfl, rfl, HF, HBr⟩ := hrel
        by_cases hk : k < m
        · have hkL : k < L.length := by rw [← HM.out]; exact hk
          have HTr := Lib.hid (HT4.out.below HBr.out)
          have HOr := Lib.hid (HO4.out.below HBr.out)
          have hc0 := HOr.out.own.cells (g := g) rfl k (.int .i64 L[k]) (by rw [List.getElem?_map, List.getElem?_eq_getElem hkL]; rfl)
          rw [addr_add, Nat.zero_add] at hc0
          have hd0 := HF.out
          rw [meet_drop hkL] at hd0
          generalize L[k] = q at hc0 hd0
          have HD := Lib.hid hd0
          clear hd0
          have hx := HTr.out.cell
          have HK := Lib.hid (fun (w' : World) (hb : Below wr.heap.size wr w') => keep2m hx hc0 HTr.out.lt (HOr.out.own.lt g rfl).2 hb)
          have HRw := Lib.hid HTr.out.row
          clear hkL HF
          go_upto_region 8 with fail
          go_region_held3 (fun w' => w'.cell? ⟨R, 0, none⟩ = some (.slice a p.length cap) ∧ w'.cell? ⟨g, k, none⟩ = some (.int .i64 q) ∧ Below wr.heap.size wr w')
            ((refine HK.out _ ?_; repeat (first | assumption | exact Below.refl _ _ | refine Below.drew ?_)))
            (first
              | (go_at_call 48; refine (HPy2.out _ (HRw.out.below (by repeat (first | assumption | exact Below.refl _ _ | refine Below.drew ?_) : Below wr.heap.size wr _) (Nat.le_refl _))).mono ?_; rintro e w5 ⟨g5, c5, rfl, o5⟩; have hb5 := below_call6 (W0 := wr) (by repeat (first | assumption | exact Below.refl _ _ | refine Below.drew ?_)) o5.bel; have HR5 := Lib.hid o5.row; clear o5)
              | (go_at_call 52; refine (l1Has_any _ (pth p y) q _ (HR5.out.below (by repeat (first | assumption | exact Below.refl _ _ | refine Below.drew ?_)) (Nat.le_refl _))).mono ?_; rintro e _ ⟨rfl, rfl⟩))
          have HB5 := Lib.hid (HBr.out.trans (hb5.mono HBr.out.size))
          have hc5 := (hb5.cell (p := ⟨g, k, none⟩) (HOr.out.own.lt g rfl).2).trans hc0
          clear hc0 hx
          by_cases hq : q ∈ pth p y
          · have hd : decide (q ∈ pth p y) = true := decide_eq_true hq
            have HD2 := Lib.hid (by have h := HD.out; rw [if_pos hq] at h; exact h)
            clear HD
            go_wp2_with fail
            go_roundw
            case rel => exact ⟨k + 1, q, by omega, by go_num, rfl, HD2, HB5⟩
            case measure => (simp [RowKit.intOf]; omega)
          · have hd : decide (q ∈ pth p y) = false := decide_eq_false hq
            have HD2 := Lib.hid (by have h := HD.out; rw [if_neg hq] at h; exact h)
            clear HD
            go_wp2_with fail
            go_roundw
            case rel => exact ⟨k + 1, z, by omega, by go_num, rfl, HD2, HB5⟩
            case measure => (simp [RowKit.intOf]; omega)
        · obtain rfl : k = m := by omega
          have HE : Hid (z = fv) := Lib.hid (by
            have h := HF.out
            rw [List.drop_of_length_le (by rw [← HM.out]; exact Nat.le_refl _)] at h
            exact h)
          have HBf := Lib.hid (HB4.out.trans (HBr.out.mono HB4.out.size))
          go_wp2_with fail
          go_ret2
          exact ⟨by rw [HE.out]; rfl, HBf.out⟩
end Go.Proofs.Ytejdphfcogfcmaa
