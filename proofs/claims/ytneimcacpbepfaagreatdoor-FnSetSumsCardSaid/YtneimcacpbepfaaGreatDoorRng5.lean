/-
  Sets as ranges: the specification's functions that return sets.
-/
import Derived.Test.YtneimcacpbepfaaGreatDoorRng4
namespace Go.Proofs.YtneimcacpbepfaaGreatDoor
open Go.RowKit Go.Lib Go.Joins
set_option linter.unusedVariables false

theorem ret_vb5 {a b : Value} {c d : Bool} (h : a = b) (h' : c = d) : Ending.returned (.tuple #[a, .bool c]) = .returned (.tuple #[b, .bool d]) := by rw [h, h']
/-- A set, if it is one: else none. -/
def chkL (s : List Rg) : List Rg := if rgOk s = true then s else []
theorem chkL_yes {s : List Rg} (h : rgOk s = true) : chkL s = s := if_pos h
theorem chkL_no {s : List Rg} (h : rgOk s = false) : chkL s = [] := by unfold chkL; rw [h]; rfl
theorem lit_none (w : World) (B : Nat) (hB : B ≤ w.heap.size) : (w.alloc (.cells #[] 47)).ownsRow B 47 2 (.slice (some ⟨w.heap.size, 0, none⟩) 0 0) ([] : List Rg).length (rgF []) :=
  ownz_base (World.ownsRow_made w #[] 0 (Nat.le_refl _) (Nat.zero_le _) rfl : (w.alloc (.cells #[] 47)).ownsRow w.heap.size 47 2 (.slice (some ⟨w.heap.size, 0, none⟩) 0 0) 0 []) hB
set_option maxHeartbeats 1000000 in
theorem l5Checked_any (B : Nat) (v : Value) (s : List Rg) (w : World) (ho : w.ownsRow B 47 2 v s.length (rgF s)) (hB : B ≤ w.heap.size) :
    Calls Tryz.prog 29 #[v] w fun e w' => ∃ v', e = .returned (.tuple #[v', .bool (rgOk s)]) ∧ w'.ownsRow B 47 2 v' (chkL s).length (rgF (chkL s)) ∧ Below w.heap.size w w' := by
  have HO := Lib.hid ho
  obtain ⟨a, cap, rfl, _, _⟩ := ownz_slice ho
  have HG := Lib.hid (l5Good_any _ s w (rowz_own ho))
  clear ho
  cases hg : rgOk s with
  | false =>
    rw [hg] at HG
    have HL : Hid (chkL s = []) := Lib.hid (chkL_no hg)
    clear hg
    go_enter Tryz.func29, Tryz.ntmps29
    go_wp2_with fail
    refine HG.out.mono ?_
    rintro e w1 ⟨rfl, k, rfl⟩
    go_wp2_with fail
    go_ret2
    exact ⟨_, rfl, by rw [HL.out]; exact lit_none (w.drewN k) B hB, (bdrew w k).alloc (Nat.le_refl _) _⟩
  | true =>
    rw [hg] at HG
    have HL : Hid (chkL s = s) := Lib.hid (chkL_yes hg)
    clear hg
    go_enter Tryz.func29, Tryz.ntmps29
    go_wp2_with fail
    refine HG.out.mono ?_
    rintro e w1 ⟨rfl, k, rfl⟩
    go_wp2_with fail
    go_ret2
    exact ⟨_, rfl, by rw [HL.out]; exact ownz_below HO.out (bdrew w k) (Nat.le_refl _), bdrew w k⟩
def askOk (s : List Rg) (f t : Int) : Bool := rgOk s && (serB f && (serB t && decide (f ≤ t)))
theorem askOk_parts {s : List Rg} {f t : Int} (h : askOk s f t = true) : rgCh s ∧ s.length ≤ 10 ∧ 0 ≤ f ∧ f ≤ t ∧ t ≤ 65535 := by
  unfold askOk at h
  simp only [Bool.and_eq_true, decide_eq_true_eq] at h
  obtain ⟨h1, h2, h3, h4⟩ := h
  obtain ⟨c, l⟩ := rgOk_parts h1
  have := of_decide_eq_true h2
  have := of_decide_eq_true h3
  exact ⟨c, l, by omega, h4, by omega⟩
def addROk (s : List Rg) (f t : Int) : Bool := askOk s f t && rgOk (addG s (f, t))
def addL (s : List Rg) (f t : Int) : List Rg := if addROk s f t = true then addG s (f, t) else []
def remOk (s : List Rg) (f t : Int) : Bool := askOk s f t && rgOk (remG s (f, t))
def remL (s : List Rg) (f t : Int) : List Rg := if remOk s f t = true then remG s (f, t) else []
theorem rgF_one (s : List Rg) : ∀ u ∈ rgF s, u.oneCell' = true := by
  intro u hu
  unfold rgF flatZ at hu
  obtain ⟨r, _, hr⟩ := List.mem_flatMap.1 hu
  simp only [rgC, List.mem_cons, List.not_mem_nil, or_false] at hr
  rcases hr with rfl | rfl <;> rfl
theorem foldl_take {α β : Type} (f : β → α → β) (z : β) {l : List α} {k : Nat} (hk : k < l.length) : (l.take (k + 1)).foldl f z = f ((l.take k).foldl f z) l[k] := by
  rw [List.take_succ_eq_append_getElem hk, List.foldl_append]
  rfl
set_option maxHeartbeats 2000000 in
theorem l5Without_any (ad : Addr) (ca : Nat) (u : Value) (x y : List Rg) (w : World) (hx : Row w (.slice (some ad) x.length ca) x.length (rgF x)) (hy : Row w u y.length (rgF y)) (cx : rgCh x) (cy : rgCh y) :
    Calls Tryz.prog 30 #[.slice (some ad) x.length ca, u] w fun e w' => ∃ v', e = .returned v' ∧ w'.ownsRow w.heap.size 47 2 v' (wiG x y).length (rgF (wiG x y)) ∧ Below w.heap.size w w' := by
  obtain ⟨i0, hi, hz0, hz1, hz2⟩ := info_parts infoRg
  have hlx := rg_len cx
  have HX := Lib.hid hx
  have HY := Lib.hid hy
  obtain ⟨b, cap, rfl, hc1, hm1, hcell⟩ := rg_open hy
  have HC := Lib.hid hcell
  have HCx := Lib.hid cx
  have HCy := Lib.hid cy
  unfold maxLen at hm1
  obtain ⟨n, hN⟩ : ∃ n, n = y.length := ⟨_, rfl⟩
  rw [← hN] at hc1 ⊢
  have HN := Lib.hid hN
  clear hcell hy hx cx cy hN
  go_enter Tryz.func30, Tryz.ntmps30
  go_wp2_with (at_builtin; refine wpList_append_own _ rfl _ _ 24 rfl w.heap.size 47 i0 (.agg #[.int .i64 0, .int .i64 0]) 2 16 Tryz.underlying24 hi hz0 hz1 hz2 rfl (by decide) _ 0 [] rfl (lit_none w w.heap.size (Nat.le_refl _)) ad x.length ca (rgF x) rfl (rgF_len x) (row_news (HX.out.below ((Below.refl _ _).alloc (Nat.le_refl _) _) (Nat.le_refl _))) (rgF_one x) (by unfold maxLen; omega) (by omega) (by simp) ?_; intro v' w4 hown' hgrow _)
  have hb4 : Below w.heap.size w w4 := ((Below.refl w.heap.size w).alloc (Nat.le_refl _) _).grown hgrow (by simp) (fun k hk => by have e : w.heap.size = k := Option.some.inj hk; omega)
  have ho4 : w4.ownsRow w.heap.size 47 2 v' x.length (rgF x) := by simpa using hown'
  have HO4 := Lib.hid ho4
  have HB4 := Lib.hid hb4
  obtain ⟨a4, c4, rfl, _, _⟩ := ownz_slice ho4
  clear hown' hgrow ho4 hb4
  go_wp2_with fail
  go_loopw [5, 6] (fun o i wr => ∃ (k : Nat) (zs : List Rg) (az : Option Addr) (cz : Nat), k ≤ n ∧ i = .int .i64 k ∧ o = .slice az zs.length cz ∧ Hid (wr.ownsRow w.heap.size 47 2 (.slice az zs.length cz) zs.length (rgF zs)) ∧ Hid (Below w.heap.size w wr) ∧ Hid (rgCh zs) ∧ Hid ((y.take k).foldl remG x = zs)) (fun _ i _ => n - (intOf i).toNat)
  case atStart => exact ⟨0, x, a4, c4, Nat.zero_le _, rfl, rfl, HO4, HB4, HCx, Lib.hid rfl⟩
  case round =>
    clear HO4 HB4
    obtain ⟨k, zs, az, cz, hk, rfl, rfl, HO, HB, HZ, HE⟩ := hrel
    by_cases hkn : k < n
    · have hks : k < y.length := by rw [← HN.out]; exact hkn
      obtain ⟨b1, off, rfl, hb, hf, ht⟩ := HC.out k hks
      have hf1 : wr.cell? ⟨b1, off + k * 2, none⟩ = some (.int .i64 y[k].1) := (HB.out.cell hb).trans hf
      have ht1 : wr.cell? ⟨b1, off + k * 2 + 1, none⟩ = some (.int .i64 y[k].2) := (HB.out.cell hb).trans ht
      have hv := HCy.out.2 y[k] (List.getElem_mem hks)
      have hst := foldl_take remG x hks
      rw [HE.out] at hst
      clear hf ht
      obtain ⟨p, q, hpq⟩ : ∃ p q, y[k] = (p, q) := ⟨_, _, rfl⟩
      rw [hpq] at hf1 ht1 hv hst
      simp only at hf1 ht1 hv
      have HE2 := Lib.hid hst
      obtain ⟨p0, pq, q1⟩ := hv
      have HM := Lib.hid (l5Remove_any _ zs p q wr (rowz_own HO.out) HZ.out p0 pq q1)
      have HZ2 := Lib.hid (remG_good zs (p, q) HZ.out pq).1
      generalize remG zs (p, q) = zs2 at HM HZ2 HE2
      clear hpq hst HE
      go_wp2_with fail
      refine HM.out.mono ?_
      rintro e w5 ⟨v5, rfl, o5, l5⟩
      have HO5 := Lib.hid (ownz_base o5 HB.out.size)
      have HB5 := Lib.hid (HB.out.trans (l5.mono HB.out.size))
      obtain ⟨a5, c5, rfl, _, _⟩ := ownz_slice o5
      clear o5 l5 HM
      go_wp2_with fail
      go_roundw
      case rel => exact ⟨k + 1, zs2, a5, c5, by omega, by go_num, rfl, HO5, HB5, HZ2, HE2⟩
      case measure => (simp [intOf]; omega)
    · obtain rfl : k = n := by omega
      have HE2 : Hid (wiG x y = zs) := Lib.hid (by
        have h := HE.out
        rw [HN.out, List.take_of_length_le (Nat.le_refl _)] at h
        exact h)
      go_wp2_with fail
      go_ret
      exact ⟨_, rfl, by rw [HE2.out]; exact HO.out, HB.out⟩
end Go.Proofs.YtneimcacpbepfaaGreatDoor
