/-
  'SortSerials' of the program: slices.SortStableFunc by gaps.
-/
import Derived.Test.YtfdpjgjclbnnfaaSortS
import Derived.Test.YtfdpjgjclbnnfaaInsSort
namespace Go.Proofs.Ytfdpjgjclbnnfaa
open Go.RowKit Go.Lib
set_option linter.unusedVariables false

/-- cmp.Compare at ints. -/
def cmpI (u v : Int) : Int := if u < v then -1 else if v < u then 1 else 0
theorem cmpI_neg (u v : Int) : decide (cmpI u v < 0) = decide (u < v) := by
  unfold cmpI
  rw [Bool.eq_iff_iff]
  simp
  split
  · simp; omega
  · split <;> simp <;> omega
theorem nan_any (x : Int) (w : World) : Calls Try.prog 71 #[.int .i64 x] w fun e w' => e = .returned (.bool false) ∧ w = w' := by
  go_enter Try.func71, Try.ntmps71
  go_wp2
  go_ret
  exact ⟨rfl, rfl⟩
theorem compare_any (u v : Int) (w : World) : Calls Try.prog 68 #[.int .i64 u, .int .i64 v] w fun e w' => e = .returned (.int .i64 (cmpI u v)) ∧ w = w' := by
  by_cases h1 : u < v
  · go_enter Try.func68, Try.ntmps68
    go_wp2_with (go_at_call 71; refine (nan_any _ _).mono ?_; rintro e w' ⟨rfl, rfl⟩)
    go_ret
    exact ⟨ret_int (by unfold cmpI; rw [if_pos h1]), rfl⟩
  · by_cases h2 : v < u
    · go_enter Try.func68, Try.ntmps68
      go_wp2_with (go_at_call 71; refine (nan_any _ _).mono ?_; rintro e w' ⟨rfl, rfl⟩)
      go_ret
      exact ⟨ret_int (by unfold cmpI; rw [if_neg (by omega), if_pos (by omega)]), rfl⟩
    · go_enter Try.func68, Try.ntmps68
      go_wp2_with (go_at_call 71; refine (nan_any _ _).mono ?_; rintro e w' ⟨rfl, rfl⟩)
      go_ret
      exact ⟨ret_int (by unfold cmpI; rw [if_neg (by omega), if_neg (by omega)]), rfl⟩

def ltG (a x y : Int) : Bool := decide (gapI a x < gapI a y)
theorem pos_same (a x : Int) (os : List Int) : ∀ k, posL (ltG a) x os k = posA a x os k
  | 0 => rfl
  | k + 1 => by
    unfold posL posA ltG
    rw [show (posL (fun x y => decide (gapI a x < gapI a y)) x os k) = posA a x os k from pos_same a x os k]
    by_cases h : gapI a x < gapI a (os.getD k 0)
    · rw [if_pos h, if_pos (decide_eq_true h)]
    · rw [if_neg h, if_neg (by rw [decide_eq_false h]; simp)]
theorem sort_same (a : Int) (xs : List Int) : sortL (ltG a) xs = sortI a xs := by
  unfold sortL sortI
  have : insL (ltG a) = insI a := by
    funext os x
    unfold insL insI
    rw [pos_same]
  rw [this]

theorem key_any (x a : Int) (B : Nat) (W : World) (h0 : 0 ≤ a) (h1 : a ≤ 65535) (h2 : 0 ≤ x) (h3 : x ≤ 65535) (hB : W.cell? ⟨B, 0, none⟩ = some (.int .i64 a)) :
    Calls Try.prog 60 #[.int .i64 x, .pointer (some ⟨B, 0, none⟩)] W fun e w' => e = .returned (.int .i64 (gapI a x)) ∧ W = w' := by
  go_enter Try.func60, Try.ntmps60
  go_wp2_with (go_at_call 52; refine (implGapB_any _ _ _ h0 h1 h2 h3).mono ?_; rintro e w' ⟨rfl, rfl⟩)
  go_ret
  exact ⟨rfl, rfl⟩

set_option maxHeartbeats 1000000 in
theorem cmpClosure_any (x y a : Int) (B K : Nat) (W : World) (h0 : 0 ≤ a) (h1 : a ≤ 65535) (h2 : 0 ≤ x) (h3 : x ≤ 65535) (h4 : 0 ≤ y) (h5 : y ≤ 65535) (hB : W.cell? ⟨B, 0, none⟩ = some (.int .i64 a))
    (hK : W.cell? ⟨K, 0, none⟩ = some (.func (.func 60) #[] #[.pointer (some ⟨B, 0, none⟩)])) :
    Calls Try.prog 67 (#[.int .i64 x, .int .i64 y] ++ #[.pointer (some ⟨K, 0, none⟩)]) W fun e w' => e = .returned (.int .i64 (cmpI (gapI a x) (gapI a y))) ∧ ∃ q, w' = W.drewN q := by
  have HK := Lib.hid (fun (z : Int) (z0 : 0 ≤ z) (z1 : z ≤ 65535) (q : Nat) => key_any z a B (W.drewN q) h0 h1 z0 z1 hB)
  clear hB
  show Calls Try.prog 67 #[.int .i64 x, .int .i64 y, .pointer (some ⟨K, 0, none⟩)] W _
  go_enter Try.func67, Try.ntmps67
  go_wp2_with fail
  go_quiet (first | (go_at_call 60; exact quiet_eq (HK.out _ (by assumption) (by assumption) _)) | (go_at_call 68; exact quiet_eq (compare_any _ _ _)))
  go_wp2_with fail
  go_ret
  exact ⟨rfl, _, rfl⟩

theorem stableFunc_any (lt : Int → Int → Bool) (cf : Int → Int → Int) (hlt : ∀ x y, lt x y = decide (cf x y < 0)) (D : Int → Prop) (g cap n base : Nat) (xs : List Int) (fg : Nat) (cb : Array Value) (w : World)
    (eg : ∀ args w, (callFunc fg args).run Try.prog w = .ok (.enter fg args) w)
    (hcmp : ∀ W : World, w.grownBy W (some g) → ∀ x y : Int, D x → D y → Calls Try.prog fg (#[.int .i64 x, .int .i64 y] ++ cb) W fun e w' => e = .returned (.int .i64 (cf x y)) ∧ ∃ q, w' = W.drewN q)
    (hD : ∀ x ∈ xs, D x) (hn : n = xs.length) (hn2 : n ≤ 20)
    (hown : w.ownsRow base 3 1 (.slice (some ⟨g, 0, none⟩) n cap) n (xs.map (Value.int .i64))) :
    Calls Try.prog 66 #[.slice (some ⟨g, 0, none⟩) n cap, .func (.func fg) #[] cb] w fun e w' => e = .returned (.tuple #[]) ∧
      w'.ownsRow base 3 1 (.slice (some ⟨g, 0, none⟩) n cap) n ((sortL lt xs).map (Value.int .i64)) ∧ w.grownBy w' (some g) := by
  have HI := Lib.hid (stable_any lt cf hlt D g cap n base xs fg cb w eg hcmp hD hn hn2 hown)
  clear hcmp hD hown hlt eg hn
  go_enter Try.func66, Try.ntmps66
  go_wp2_with fail
  refine HI.out.mono ?_
  rintro e w1 ⟨rfl, ho, hg⟩
  have HO := Lib.hid ho
  have HG := Lib.hid hg
  clear ho hg
  go_wp2_with fail
  go_end0
  exact ⟨rfl, HO.out, HG.out⟩

theorem cell_two (w : World) (A B : Obj) (b o : Nat) (h : b < w.heap.size) : ((w.alloc A).alloc B).cell? ⟨b, o, none⟩ = w.cell? ⟨b, o, none⟩ :=
  (((Below.refl w.heap.size w).alloc (Nat.le_refl _) A).alloc (by simp) B).cell (p := ⟨b, o, none⟩) h

set_option maxHeartbeats 2000000 in
theorem sortedBy_any (ad : Addr) (n cap : Nat) (xs : List Int) (a : Int) (B : Nat) (w : World) (hrow : Row w (.slice (some ad) n cap) n (xs.map (Value.int .i64))) (hn : n = xs.length) (hn2 : n ≤ 20)
    (h0 : 0 ≤ a) (h1 : a ≤ 65535) (hall : xs.all serB = true) (hBl : B < w.heap.size) (hB : w.cell? ⟨B, 0, none⟩ = some (.int .i64 a)) :
    Calls Try.prog 59 #[.slice (some ad) n cap, .func (.func 60) #[] #[.pointer (some ⟨B, 0, none⟩)]] w fun e w' => ∃ v', e = .returned v' ∧
      w'.ownsRow w.heap.size 3 1 v' n ((sortI a xs).map (Value.int .i64)) ∧ Below w.heap.size w w' := by
  obtain ⟨i0, hi, hz0, hz1, hz2⟩ := info_parts infoInt
  have eg : ∀ args w, (callFunc 67 args).run Try.prog w = .ok (.enter 67 args) w := enters_of Try.func67 (by kernel_rfl) rfl
  have HEG := Lib.hid eg
  have HN := Lib.hid hn
  have HR := Lib.hid hrow
  have HB := Lib.hid hB
  have HAll := Lib.hid hall
  clear eg hn hrow hB hall
  go_enter Try.func59, Try.ntmps59
  go_wp2_with (at_builtin; refine wpList_append_own_at _ rfl _ _ 34 rfl (w.heap.size + 1) 3 i0 (.int .i64 0) 1 8 Try.underlying34 hi hz0 hz1 hz2 rfl (by decide) _ 0 [] rfl (own_lit (heap_second _ _ _) (Nat.le_refl _)) ad n cap (xs.map (Value.int .i64)) rfl (by rw [List.length_map, HN.out, Nat.mul_one]) (row_news (HR.out.below (((Below.refl w.heap.size w).alloc (Nat.le_refl _) _).alloc (by simp) _) (Nat.le_refl _))) (one_ints xs) (by unfold maxLen; omega) (by omega) (by simp) ?_; intro v1 w1 hown hgrow hnil hat)
  have hb0 : Below w.heap.size w ((w.alloc (.cells #[.func (.func 60) #[] #[.pointer (some ⟨B, 0, none⟩)]] 58)).alloc (.cells #[] 3)) := ((Below.refl w.heap.size w).alloc (Nat.le_refl _) _).alloc (by simp) _
  have hk0 : ((w.alloc (.cells #[.func (.func 60) #[] #[.pointer (some ⟨B, 0, none⟩)]] 58)).alloc (.cells #[] 3)).cell? ⟨w.heap.size, 0, none⟩ = some (.func (.func 60) #[] #[.pointer (some ⟨B, 0, none⟩)]) := by
    have := heap_first w (.cells #[.func (.func 60) #[] #[.pointer (some ⟨B, 0, none⟩)]] 58) (.cells #[] 3)
    simp [World.cell?, this]
  have hB0 := (cell_two w (.cells #[.func (.func 60) #[] #[.pointer (some ⟨B, 0, none⟩)]] 58) (.cells #[] 3) B 0 hBl).trans HB.out
  have hk1 := hgrow.cell hk0 (by intro e; have e2 : w.heap.size = w.heap.size + 1 := Option.some.inj e; omega)
  have hB1 := hgrow.cell hB0 (by intro e; have e2 : B = w.heap.size + 1 := Option.some.inj e; omega)
  have hb1 := hb0.grown hgrow hb0.size (fun k hk => by have e2 : w.heap.size + 1 = k := Option.some.inj hk; omega)
  rw [Nat.zero_add, List.nil_append] at hown
  have hown0 := hown
  obtain ⟨hl, ⟨hv, _⟩ | ⟨g1, c1, cur, rfl, hg1, _⟩⟩ := hown
  · cases (hnil.1 hv).1
  · have hS := stableFunc_any (ltG a) (fun x y => cmpI (gapI a x) (gapI a y)) (fun x y => by unfold ltG; exact (cmpI_neg _ _).symm) (fun x => serB x = true) g1 c1 n (w.heap.size + 1) xs 67 #[.pointer (some ⟨w.heap.size, 0, none⟩)] w1 HEG.out
      (fun W hW x y hx hy => cmpClosure_any x y a B w.heap.size W h0 h1 (serB_bd hx).1 (serB_bd hx).2 (serB_bd hy).1 (serB_bd hy).2
        (hW.cell hB1 (by intro e; have e2 : B = g1 := Option.some.inj e; omega)) (hW.cell hk1 (by intro e; have e2 : w.heap.size = g1 := Option.some.inj e; omega)))
      (fun x hx => (List.all_eq_true.1 HAll.out) x hx) HN.out hn2 hown0
    rw [sort_same] at hS
    have HS := Lib.hid hS
    have HB1 := Lib.hid hb1
    clear hS hb1 hb0 hk0 hB0 hk1 hB1 hown0 hgrow hnil hat hl
    go_wp2_with fail
    refine HS.out.mono ?_
    rintro e w2 ⟨rfl, ho, hg⟩
    have HO := Lib.hid ho
    have HG := Lib.hid hg
    clear ho hg
    go_wp2_with fail
    go_ret
    exact ⟨_, rfl, own_base HO.out (by omega), HB1.out.grown HG.out HB1.out.size (fun k hk => by have e2 : g1 = k := Option.some.inj hk; omega)⟩

set_option maxHeartbeats 2000000 in
theorem implSort_any (ad : Addr) (cap : Nat) (xs : List Int) (a : Int) (w : World) (hrow : Row w (.slice (some ad) xs.length cap) xs.length (xs.map (Value.int .i64))) :
    Calls Try.prog 34 #[.slice (some ad) xs.length cap, .int .i64 a] w fun e w' => ∃ v', e = .returned (.tuple #[v', .bool (srtOk xs a)]) ∧
      w'.ownsRow w.heap.size 3 1 v' (srtL xs a).length ((srtL xs a).map (Value.int .i64)) ∧ Below w.heap.size w w' := by
  have HAr := Lib.hid (fun (wx : World) (hb : Below w.heap.size w wx) => areSerials_any _ xs wx (hrow.below hb (Nat.le_refl _)))
  have HR := Lib.hid hrow
  have hcap : cap ≤ 9223372036854775807 ∧ xs.length ≤ cap := by
    obtain ⟨a', c', e', h1, h2, _⟩ := hrow
    injection e' with _ _ e3
    subst e3
    unfold maxLen at h2
    exact ⟨by omega, h1⟩
  obtain ⟨hc1, hc2⟩ := hcap
  clear hrow
  have bx : Below w.heap.size w (w.alloc (.cells #[.int .i64 a] 3)) := (Below.refl _ _).alloc (Nat.le_refl _) _
  have HBX := Lib.hid bx
  clear bx
  cases ho : srtOk xs a with
  | false =>
    rw [srtL_no ho]
    cases ha : serB a with
    | false =>
      clear ho
      go_enter Try.func34, Try.ntmps34
      go_wp2_with (go_at_call 19; refine (implIsSerial_any _ _).mono ?_; rintro e w' ⟨rfl, rfl⟩)
      go_ret2
      exact ⟨_, rfl, own_lit (heap_second _ _ _) (by omega), HBX.out.alloc HBX.out.size _⟩
    | true =>
      by_cases hb : (20 : Int) < xs.length
      · have hb' : decide ((20 : Int) < xs.length) = true := decide_eq_true hb
        clear ho
        go_enter Try.func34, Try.ntmps34
        go_wp2_with (go_at_call 19; refine (implIsSerial_any _ _).mono ?_; rintro e w' ⟨rfl, rfl⟩)
        go_ret2
        exact ⟨_, rfl, own_lit (heap_second _ _ _) (by omega), HBX.out.alloc HBX.out.size _⟩
      · have hall : xs.all serB = false := by
          cases h : xs.all serB with
          | false => rfl
          | true =>
            unfold srtOk listOk at ho
            rw [h, ha, decide_eq_true (by omega)] at ho
            cases ho
        have hb' : decide ((20 : Int) < xs.length) = false := decide_eq_false hb
        rw [hall] at HAr
        clear ho hall
        go_enter Try.func34, Try.ntmps34
        go_wp2_with (first | (go_at_call 19; refine (implIsSerial_any _ _).mono ?_; rintro e w' ⟨rfl, rfl⟩) | (go_at_call 51; refine (HAr.out _ HBX.out).mono ?_; rintro e w' ⟨rfl, rfl⟩))
        go_ret2
        exact ⟨_, rfl, own_lit (heap_second _ _ _) (by omega), HBX.out.alloc HBX.out.size _⟩
  | true =>
    rw [srtL_yes ho]
    have hlo : listOk xs = true := by unfold srtOk at ho; rw [Bool.and_eq_true] at ho; exact ho.1
    have ha : serB a = true := by unfold srtOk at ho; rw [Bool.and_eq_true] at ho; exact ho.2
    obtain ⟨a0, a1⟩ := serB_bd ha
    have hall : xs.all serB = true := by unfold listOk at hlo; rw [Bool.and_eq_true] at hlo; exact hlo.2
    have h20 : xs.length ≤ 20 := by unfold listOk at hlo; rw [Bool.and_eq_true] at hlo; exact of_decide_eq_true hlo.1
    have hb' : decide ((20 : Int) < xs.length) = false := decide_eq_false (by omega)
    rw [sortI_len]
    have HSB := Lib.hid (sortedBy_any ad xs.length cap xs a w.heap.size (w.alloc (.cells #[.int .i64 a] 3)) (HR.out.below HBX.out (Nat.le_refl _)) rfl h20 a0 a1 hall (by simp) (by simp))
    rw [hall] at HAr
    clear ho hall hlo
    go_enter Try.func34, Try.ntmps34
    go_wp2_with (first | (go_at_call 19; refine (implIsSerial_any _ _).mono ?_; rintro e w' ⟨rfl, rfl⟩) | (go_at_call 51; refine (HAr.out _ HBX.out).mono ?_; rintro e w' ⟨rfl, rfl⟩) | (go_at_call 59; refine HSB.out.mono ?_; rintro e w1 ⟨v1, rfl, ho1, hb1⟩))
    go_ret2
    exact ⟨_, rfl, own_base ho1 HBX.out.size, HBX.out.trans (hb1.mono HBX.out.size)⟩
end Go.Proofs.Ytfdpjgjclbnnfaa
