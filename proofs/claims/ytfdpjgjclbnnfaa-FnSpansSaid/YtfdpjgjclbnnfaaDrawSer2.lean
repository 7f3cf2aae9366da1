/-
  The draws of chapter 2 that draw lists of serials.
-/
import Derived.Test.YtfdpjgjclbnnfaaDrawSer
import Derived.Test.YtfdpjgjclbnnfaaAppRow
import Derived.Test.YtfdpjgjclbnnfaaInts
namespace Go.Proofs.Ytfdpjgjclbnnfaa
open Go.RowKit
set_option linter.unusedVariables false

theorem g_fresh {a b c : World} {row : Option Nat} {k : Nat} (h1 : a.grownBy b row) (h2 : b.grownBy c (some k)) (hk : a.heap.size ≤ k) : a.grownBy c row :=
  ⟨h2.os.trans h1.os, h2.tape.trans h1.tape, h2.output.trans h1.output, Nat.le_trans h1.size h2.size, fun q hq hn => (h2.block q (Nat.lt_of_lt_of_le hq h1.size) (by intro e; have : q = k := Option.some.inj e; omega)).trans (h1.block q hq hn)⟩
theorem own_cur {w w' : World} {base n B : Nat} {e : TypeId} {v : Value} {xs : List Value} (h : w.ownsRow base e 1 v n xs) (hg : w.grownBy w' (some B)) (hB : B < base) : w'.ownsRow base e 1 v n xs := by
  refine h.kept hg ?_
  cases hv : v.ownBlock with
  | none => exact .inl rfl
  | some k =>
    refine .inr fun e => ?_
    have := (h.lt k hv).1
    have e2 : k = B := Option.some.inj e
    omega

/-- A list that has been drawn so far: its slice lies in block g, behind the cursor's; its numbers are small. -/
def Drawn (w0 w : World) (B : Nat) (z : List Int) (m g c : Nat) (zs : List Int) : Prop :=
  w.ownsRow w0.heap.size 3 1 (.slice (some ⟨g, 0, none⟩) zs.length c) zs.length (zs.map (Value.int .i64)) ∧ Cu w B z m ∧ w0.grownBy w (some B) ∧ (∀ x ∈ zs, -1 ≤ x ∧ x ≤ 65536) ∧ B < w0.heap.size

theorem Drawn.cur {w0 w w' : World} {B m m' g c : Nat} {z zs : List Int} (h : Drawn w0 w B z m g c zs) (hc : Cu w' B z m') (hg : w.grownBy w' (some B)) : Drawn w0 w' B z m' g c zs :=
  ⟨own_cur h.1 hg h.2.2.2.2, hc, g_trans h.2.2.1 hg, h.2.2.2.1, h.2.2.2.2⟩
theorem Drawn.mono {w0 w : World} {B m m' g c : Nat} {z zs : List Int} (h : Drawn w0 w B z m g c zs) (hm : m ≤ m') : Drawn w0 w B z m' g c zs :=
  ⟨h.1, h.2.1.mono hm, h.2.2.1, h.2.2.2.1, h.2.2.2.2⟩
/-- One number more. -/
theorem Drawn.app {w0 w w1 : World} {B m g c : Nat} {z zs : List Int} {x : Int} {v' : Value} (h : Drawn w0 w B z m g c zs) (x0 : -1 ≤ x) (x1 : x ≤ 65536)
    (ho : w1.ownsRow w0.heap.size 3 1 v' (zs.length + 1) (zs.map (Value.int .i64) ++ [.int .i64 x])) (hg : (w.alloc (.cells #[.int .i64 x] 3)).grownBy w1 (some g)) :
    ∃ g' c', v' = .slice (some ⟨g', 0, none⟩) (zs ++ [x]).length c' ∧ Drawn w0 w1 B z m g' c' (zs ++ [x]) := by
  obtain ⟨g', c', rfl⟩ := own_form ho (by omega)
  have hgk : w0.heap.size ≤ g := (h.1.lt g rfl).1
  have e : (zs ++ [x]).length = zs.length + 1 := by simp
  refine ⟨g', c', by rw [e], ?_, ?_, ?_, ?_, h.2.2.2.2⟩
  · rw [e, List.map_append, List.map_singleton]
    exact ho
  · exact (h.2.1.grown (World.grownBy_alloc _ _ none)).grown' hg (fun k hk => by have e2 : g = k := Option.some.inj hk; have := h.2.2.2.2; omega)
  · exact g_fresh (g_trans h.2.2.1 (World.grownBy_alloc _ _ _)) hg hgk
  · intro y hy
    rcases List.mem_append.1 hy with hy | hy
    · exact h.2.2.2.1 y hy
    · simp at hy; omega

set_option maxHeartbeats 2000000 in
theorem serials_any (B m : Nat) (z : List Int) (w : World) (h : Cu w B z m) (hm : m ≤ 600000) :
    Calls Try.prog 58 #[.pointer (some ⟨B, 0, none⟩)] w fun e w' => ∃ (g c : Nat) (zs : List Int), e = .returned (.slice (some ⟨g, 0, none⟩) zs.length c) ∧ zs.length ≤ 40 ∧ Drawn w w' B z (m + 200) g c zs := by
  obtain ⟨i0, hi, hz0, hz1, hz2⟩ := info_parts infoInt
  have HH := Lib.hid h
  have hBl := h.lt
  have hd0 : Drawn w (w.alloc (.cells #[] 3)) B z m w.heap.size 0 [] :=
    ⟨World.ownsRow_made w #[] 0 (Nat.le_refl _) (Nat.zero_le _) rfl, h.grown (World.grownBy_alloc _ _ none), World.grownBy_alloc _ _ _, by simp, hBl⟩
  have HD0 := Lib.hid hd0
  clear h hd0
  go_enter Try.func58, Try.ntmps58
  go_wp2_with fail
  refine (serial_any B m z _ HD0.out.2.1 (by omega)).mono ?_
  rintro e w1 ⟨x, x0, x1, rfl, hc, hg⟩
  have HD1 := Lib.hid (HD0.out.cur hc hg)
  clear hc hg HD0
  go_wp2_with fail
  refine (pick_any B (m + 4) 7 z _ HD1.out.2.1 (by omega) (by omega) (by omega)).mono ?_
  rintro e w2 ⟨p, hp, rfl, hc2, hg2⟩
  have HD2 := Lib.hid (HD1.out.cur hc2 hg2)
  clear hc2 hg2 HD1
  go_wp2_with fail
  go_loopw [3, 5] (fun v q wr => ∃ (k g c : Nat) (zs : List Int), zs.length + k ≤ 6 ∧ q = .int .i64 k ∧ v = .slice (some ⟨g, 0, none⟩) zs.length c ∧ Hid (Drawn w wr B z (m + 6 + 2 * zs.length) g c zs)) (fun _ q _ => (intOf q).toNat)
  case atStart => exact ⟨p, _, _, [], by simp; omega, rfl, rfl, HD2⟩
  case round =>
    clear HD2
    obtain ⟨k, g, c, zs, hk, rfl, rfl, HD⟩ := hrel
    by_cases hk0 : 0 < k
    · go_wp2_with fail
      refine (near_any B (m + 6 + 2 * zs.length) z x _ HD.out.2.1 (by omega) x0 x1).mono ?_
      rintro e w3 ⟨y, y0, y1, rfl, hc3, hg3⟩
      have HD3 := Lib.hid (HD.out.cur hc3 hg3)
      have hsz := HD3.out.2.2.1.size
      clear hc3 hg3
      go_wp2_with (at_builtin; refine wpList_append_own _ rfl _ _ 34 rfl w.heap.size 3 i0 (.int .i64 0) 1 8 Try.underlying34 hi hz0 hz1 hz2 rfl (by decide) _ _ _ rfl (HD3.out.1.alloc _) ⟨w3.heap.size, 0, none⟩ 1 1 [.int .i64 y] rfl rfl (cell_one_new _ _ _) (by intro u hu; simp at hu; subst hu; rfl) (by unfold maxLen; omega) (by omega) (by simp; omega) ?_; intro v' w4 hown' hgrow _)
      obtain ⟨g', c', rfl, hd4⟩ := HD3.out.app (by omega) (by omega) hown' hgrow
      have HD4 := Lib.hid hd4
      clear hown' hgrow hd4
      go_roundw
      case rel => exact ⟨k - 1, g', c', zs ++ [y], by simp; omega, by congr 1; omega, rfl, Lib.hid (HD4.out.mono (by simp; omega))⟩
      case measure => (first | (simp [intOf]; done) | (simp [intOf]; omega))
    · obtain rfl : k = 0 := by omega
      go_wp2_with fail
      refine (pick_any B (m + 6 + 2 * zs.length) 20 z _ HD.out.2.1 (by omega) (by omega) (by omega)).mono ?_
      rintro e w3 ⟨b, hb, rfl, hc3, hg3⟩
      have HD3 := Lib.hid (HD.out.cur hc3 hg3)
      have hsz := HD3.out.2.2.1.size
      clear hc3 hg3
      by_cases hb0 : b = 0
      · subst hb0
        go_wp2_with fail
        refine (anySerial_any B (m + 6 + 2 * zs.length + 2) z _ HD3.out.2.1 (by omega)).mono ?_
        rintro e w4 ⟨y, y0, y1, rfl, hc4, hg4⟩
        have HD4 := Lib.hid (HD3.out.cur hc4 hg4)
        have hsz4 := HD4.out.2.2.1.size
        clear hc4 hg4
        go_wp2_with (at_builtin; refine wpList_append_own _ rfl _ _ 34 rfl w.heap.size 3 i0 (.int .i64 0) 1 8 Try.underlying34 hi hz0 hz1 hz2 rfl (by decide) _ _ _ rfl (HD4.out.1.alloc _) ⟨w4.heap.size, 0, none⟩ 1 1 [.int .i64 y] rfl rfl (cell_one_new _ _ _) (by intro u hu; simp at hu; subst hu; rfl) (by unfold maxLen; omega) (by omega) (by simp; omega) ?_; intro v' w5 hown' hgrow _)
        obtain ⟨g', c', rfl, hd5⟩ := HD4.out.app y0 y1 hown' hgrow
        have HD5 := Lib.hid hd5
        clear hown' hgrow hd5
        go_ret
        exact ⟨g', c', zs ++ [y], rfl, by simp; omega, HD5.out.mono (by omega)⟩
      · by_cases hb1 : b = 1
        · subst hb1
          go_wp2_with fail
          go_loopw [3, 6] (fun v q wr => ∃ (k g c : Nat) (zs : List Int), k ≤ 22 ∧ zs.length ≤ 6 + k ∧ q = .int .i64 k ∧ v = .slice (some ⟨g, 0, none⟩) zs.length c ∧ Hid (Drawn w wr B z (m + 50 + 2 * k) g c zs)) (fun _ q _ => 22 - (intOf q).toNat)
          case atStart => exact ⟨0, g, c, zs, by omega, by omega, rfl, rfl, Lib.hid (HD3.out.mono (by omega))⟩
          case round =>
            clear HD3 HD hsz
            obtain ⟨k, g, c, zs, hk, hzl, rfl, rfl, HD⟩ := hrel
            go_wp2_with fail
            refine (pick_any B (m + 50 + 2 * k) 2 z _ HD.out.2.1 (by omega) (by omega) (by omega)).mono ?_
            rintro e w4 ⟨b, hb, rfl, hc4, hg4⟩
            have HD4 := Lib.hid (HD.out.cur hc4 hg4)
            have hsz4 := HD4.out.2.2.1.size
            clear hc4 hg4
            by_cases hgo : zs.length < 20 + b ∧ k < 22
            · obtain ⟨hg1, hg2⟩ := hgo
              have hg1' : (zs.length : Int) < 20 + (b : Int) := by omega
              go_wp2_with (at_builtin; refine wpList_append_own _ rfl _ _ 34 rfl w.heap.size 3 i0 (.int .i64 0) 1 8 Try.underlying34 hi hz0 hz1 hz2 rfl (by decide) _ _ _ rfl (HD4.out.1.alloc _) ⟨w4.heap.size, 0, none⟩ 1 1 [.int .i64 (3 * (k : Int))] rfl rfl (cell_one_new _ _ _) (by intro u hu; simp at hu; subst hu; rfl) (by unfold maxLen; omega) (by omega) (by simp; omega) ?_; intro v' w5 hown' hgrow _)
              obtain ⟨g', c', rfl, hd5⟩ := HD4.out.app (by omega) (by omega) hown' hgrow
              have HD5 := Lib.hid hd5
              clear hown' hgrow hd5
              go_roundw
              case rel => exact ⟨k + 1, g', c', zs ++ [3 * (k : Int)], by omega, by simp; omega, by go_num, rfl, Lib.hid (HD5.out.mono (by omega))⟩
              case measure => (first | (simp [intOf]; done) | (simp [intOf]; omega))
            · by_cases hg1 : zs.length < 20 + b
              · have hg1' : (zs.length : Int) < 20 + (b : Int) := by omega
                have hg2 : ¬ k < 22 := fun h => hgo ⟨hg1, h⟩
                go_wp2_with fail
                go_ret
                exact ⟨g, c, zs, rfl, by omega, HD4.out.mono (by omega)⟩
              · have hg1' : ¬ (zs.length : Int) < 20 + (b : Int) := by omega
                go_wp2_with fail
                go_ret
                exact ⟨g, c, zs, rfl, by omega, HD4.out.mono (by omega)⟩
        · have h0 : ((b : Int) == 0) = false := by simp; omega
          have h1 : ((b : Int) == 1) = false := by simp; omega
          go_wp2_with fail
          go_ret
          exact ⟨g, c, zs, rfl, by omega, HD3.out.mono (by omega)⟩
def spnL : List Int := [0, 1, 5, 20, 21, 12]
theorem spnL_bd : ∀ x ∈ spnL, 0 ≤ x ∧ x ≤ 21 := by
  intro x hx
  simp only [spnL, List.mem_cons, List.not_mem_nil, or_false] at hx
  omega
set_option maxHeartbeats 1000000 in
theorem drawSpan_any (v : Value) (z : List Int) (w : World) (hrow : Row w v z.length (z.map (Value.int .u8))) (hz : ∀ x ∈ z, 0 ≤ x ∧ x < 256) :
    Calls Try.prog 29 #[v] w fun e w' => ∃ x n : Int, e = .returned (.tuple #[.int .i64 x, .int .i64 n]) ∧ Below w.heap.size w w' := by
  have HC0 := Lib.hid (cu_new w v z hrow hz)
  obtain ⟨a0, cap0, rfl, _, _, _⟩ := row_open hrow
  clear hrow hz
  go_enter Try.func29, Try.ntmps29
  go_wp2_with fail
  refine (anySerial_any w.heap.size 0 z _ HC0.out (by omega)).mono ?_
  rintro e w1 ⟨x, x0, x1, rfl, hc, hg⟩
  have HC := Lib.hid hc
  have HB := Lib.hid (((Below.refl _ _).alloc (Nat.le_refl _) _).trans (gbelow hg (by simp) (Nat.le_refl _)))
  clear hc hg
  go_wp2_with fail
  refine (l2Good_any _ _).mono ?_
  rintro e w2 ⟨rfl, rfl⟩
  cases hs : serB x with
  | false =>
    go_wp2_with fail
    refine (anySerial_any w.heap.size 6 z _ HC.out (by omega)).mono ?_
    rintro e w3 ⟨y, y0, y1, rfl, hc3, hg3⟩
    have HB3 := Lib.hid (HB.out.trans (gbelow hg3 HB.out.size (Nat.le_refl _)))
    clear hc3 hg3
    go_wp2_with fail
    go_ret2
    exact ⟨x, y, rfl, HB3.out⟩
  | true =>
    obtain ⟨s0, s1⟩ := serB_bd hs
    go_wp2_with fail
    refine (one_any w.heap.size 6 8 z _ HC.out (by omega) (by omega) (by omega)).mono ?_
    rintro e w2 ⟨b, rfl, hc2, hg2⟩
    have HC2 := Lib.hid hc2
    have HB2 := Lib.hid (HB.out.trans (gbelow hg2 HB.out.size (Nat.le_refl _)))
    clear hc2 hg2
    cases b with
    | true =>
      go_wp2_with fail
      refine (anySerial_any w.heap.size 8 z _ HC2.out (by omega)).mono ?_
      rintro e w3 ⟨y, y0, y1, rfl, hc3, hg3⟩
      have HB3 := Lib.hid (HB2.out.trans (gbelow hg3 HB2.out.size (Nat.le_refl _)))
      clear hc3 hg3
      go_wp2_with fail
      go_ret2
      exact ⟨x, y, rfl, HB3.out⟩
    | false =>
      go_wp2_with fail
      refine (among_any w.heap.size 8 z _ spnL _ (HC2.out.grown (World.grownBy_alloc _ _ none)) (by omega) (by decide) (by decide) (fun w' hg => row_fresh (xs := spnL.map (Value.int .i64)) (n := spnL.length) (List.length_map _).symm (by decide) HC2.out.lt hg)).mono ?_
      rintro e w3 ⟨n, hn, rfl, hc3, hg3⟩
      obtain ⟨n0, n1⟩ := spnL_bd n hn
      have HG3 := Lib.hid hg3
      clear hn hc3 hg3
      go_wp2_with fail
      refine (l2After_any x n _ s0 s1 (by omega) (by omega)).mono ?_
      rintro e w4 ⟨rfl, rfl⟩
      go_wp2_with fail
      go_ret2
      exact ⟨x, _, rfl, (HB2.out.alloc HB2.out.size _).trans (gbelow HG3.out (by have := HB2.out.size; simp; omega) (Nat.le_refl _))⟩
theorem drawSort_any (v : Value) (z : List Int) (w : World) (hrow : Row w v z.length (z.map (Value.int .u8))) (hz : ∀ x ∈ z, 0 ≤ x ∧ x < 256) :
    Calls Try.prog 33 #[v] w fun e w' => ∃ (g c : Nat) (zs : List Int) (a : Int), e = .returned (.tuple #[.slice (some ⟨g, 0, none⟩) zs.length c, .int .i64 a]) ∧ zs.length ≤ 40 ∧
      w'.ownsRow w.heap.size 3 1 (.slice (some ⟨g, 0, none⟩) zs.length c) zs.length (zs.map (Value.int .i64)) ∧ Below w.heap.size w w' := by
  have HC0 := Lib.hid (cu_new w v z hrow hz)
  obtain ⟨a0, cap0, rfl, _, _, _⟩ := row_open hrow
  clear hrow hz
  go_enter Try.func33, Try.ntmps33
  go_wp2_with fail
  refine (serials_any w.heap.size 0 z _ HC0.out (by omega)).mono ?_
  rintro e w1 ⟨g, c, zs, rfl, hl, hd⟩
  have HD := Lib.hid hd
  clear hd
  go_wp2_with fail
  refine (anySerial_any w.heap.size 200 z _ (HD.out.2.1.mono (by omega)) (by omega)).mono ?_
  rintro e w2 ⟨x, x0, x1, rfl, hc, hg⟩
  have HD2 := Lib.hid (HD.out.cur hc hg)
  clear hc hg
  go_wp2_with fail
  go_ret2
  exact ⟨g, c, zs, x, rfl, hl, own_base HD2.out.1 (by simp), ((Below.refl _ _).alloc (Nat.le_refl _) _).trans (gbelow HD2.out.2.2.1 (by simp) (Nat.le_refl _))⟩
theorem drawSpanOf_any (v : Value) (z : List Int) (w : World) (hrow : Row w v z.length (z.map (Value.int .u8))) (hz : ∀ x ∈ z, 0 ≤ x ∧ x < 256) :
    Calls Try.prog 37 #[v] w fun e w' => ∃ (g c : Nat) (zs : List Int), e = .returned (.slice (some ⟨g, 0, none⟩) zs.length c) ∧ zs.length ≤ 40 ∧
      w'.ownsRow w.heap.size 3 1 (.slice (some ⟨g, 0, none⟩) zs.length c) zs.length (zs.map (Value.int .i64)) ∧ Below w.heap.size w w' := by
  have HC0 := Lib.hid (cu_new w v z hrow hz)
  obtain ⟨a0, cap0, rfl, _, _, _⟩ := row_open hrow
  clear hrow hz
  go_enter Try.func37, Try.ntmps37
  go_wp2_with fail
  refine (serials_any w.heap.size 0 z _ HC0.out (by omega)).mono ?_
  rintro e w1 ⟨g, c, zs, rfl, hl, hd⟩
  have HD := Lib.hid hd
  clear hd
  go_wp2_with fail
  go_ret
  exact ⟨g, c, zs, rfl, hl, own_base HD.out.1 (by simp), ((Below.refl _ _).alloc (Nat.le_refl _) _).trans (gbelow HD.out.2.2.1 (by simp) (Nat.le_refl _))⟩
end Go.Proofs.Ytfdpjgjclbnnfaa
