/-
  The draws of chapter 7 as the laws call them: texts to send.
-/
import Derived.Test.YtbhhmaialilabaaDrawLink3
import Derived.Deep.LoopGhost
namespace Go.Proofs.Ytbhhmaialilabaa
open Go.RowKit Go.Lib Go.Joins
set_option linter.unusedVariables false

/-- The drawn link in a box X, while a list is drawn. -/
structure DoY (w w' : World) (B : Nat) (z : List Int) (m X : Nat) (v : Value) (l : Lk) (u : Value) (t : List ByteArray) : Prop where
  d : DoX w w' B z m X v l
  lst : w'.ownsRow (w.heap.size + 2) 9 1 u t.length (t.map Value.string)
  nu : ∀ k, u.ownBlock = some k → k ≠ X
  ap : ∀ k, v.ownBlock = some k → u.ownBlock ≠ some k
theorem DoY.call {w w1 w2 : World} {B m m' X : Nat} {z : List Int} {v u : Value} {l : Lk} {t : List ByteArray} (h : DoY w w1 B z m X v l u t) (hc : Cu w2 B z m') (hg : w1.grownBy w2 (some B)) : DoY w w2 B z m' X v l u t := by
  refine ⟨h.d.call hc hg, h.lst.kept hg ?_, h.nu, h.ap⟩
  cases hv : u.ownBlock with
  | none => exact .inl rfl
  | some k => exact .inr (some_ne7 (by have := (h.lst.lt k hv).1; have := h.d.d.hB; omega))
theorem DoY.mono {w w1 : World} {B m m' X : Nat} {z : List Int} {v u : Value} {l : Lk} {t : List ByteArray} (h : DoY w w1 B z m X v l u t) (hm : m ≤ m') : DoY w w1 B z m' X v l u t := h.call (h.d.d.cu.mono hm) (g_refl _ _)
theorem DoY.alloc {w w1 : World} {B m X : Nat} {z : List Int} {v u : Value} {l : Lk} {t : List ByteArray} (h : DoY w w1 B z m X v l u t) (o : Obj) : DoY w (w1.alloc o) B z m X v l u t := h.call (h.d.d.cu.grown (World.grownBy_alloc _ _ none)) (World.grownBy_alloc _ _ _)
theorem DoY.size2 {w w1 : World} {B m X : Nat} {z : List Int} {v u : Value} {l : Lk} {t : List ByteArray} (h : DoY w w1 B z m X v l u t) : w.heap.size + 2 ≤ w1.heap.size := by
  have h1 := h.d.d.cu.lt
  have h2 := h.d.d.hB
  omega
theorem DoY.app {w w1 w2 : World} {B m X : Nat} {z : List Int} {v u u' : Value} {l : Lk} {t : List ByteArray} {x : ByteArray} (h : DoY w w1 B z m X v l u t)
    (ho : w2.ownsRow (w.heap.size + 2) 9 1 u' (t.length + 1) (t.map Value.string ++ [.string x])) (hg : (w1.alloc (.cells #[.string x] 9)).grownBy w2 u.ownBlock)
    (hat : u'.ownBlock = u.ownBlock ∨ u'.ownBlock = some (w1.alloc (.cells #[.string x] 9)).heap.size) : DoY w w2 B z m X v l u' (t ++ [x]) := by
  have ha := h.alloc (.cells #[.string x] 9)
  have hB := h.d.d.hB
  have hXl := ha.d.box.lt
  have hr : ∀ k, u.ownBlock = some k → w.heap.size + 2 ≤ k := fun k hk => (h.lst.lt k hk).1
  refine ⟨⟨⟨?_, ?_, ?_, ?_, h.d.d.fs, h.d.d.qs, hB⟩, ?_, h.d.hX, h.d.nv⟩, ?_, ?_, ?_⟩
  · exact own_apart ha.d.d.own hg (fun k hk => h.ap k hk)
  · exact ha.d.d.res.grown hg (fun e => by have := hr _ e.symm; omega)
  · exact ha.d.d.cu.grown' hg (fun k hk => by have := hr k hk; omega)
  · exact ha.d.d.bel.grown hg ha.d.d.bel.size (fun k hk => by have := hr k hk; omega)
  · exact ha.d.box.grown hg (fun e => h.nu X e.symm rfl)
  · rw [show (t ++ [x]).length = t.length + 1 by simp, List.map_append]
    exact ho
  · intro k hk
    rcases hat with h1 | h1
    · exact h.nu k (h1.symm.trans hk)
    · have e := Option.some.inj (h1.symm.trans hk)
      omega
  · intro k hk e
    rcases hat with h1 | h1
    · exact h.ap k hk (h1.symm.trans e)
    · have e2 := Option.some.inj (h1.symm.trans e)
      have := (ha.d.d.own.lt k hk).2
      omega
theorem DoY.lstOut {w w1 : World} {B m X : Nat} {z : List Int} {v v' u : Value} {l : Lk} {t : List ByteArray} {f' : ByteArray} {u' : Int} (h : DoY w w1 B z m X v l u t) :
    (((w1.setCell ⟨w.heap.size, 0, none⟩ v').setCell ⟨w.heap.size, 1, none⟩ (.string f')).setCell ⟨w.heap.size, 2, none⟩ (.int .i64 u')).ownsRow w.heap.size 9 1 u t.length (t.map Value.string) := by
  refine own_base (h.lst.kept (h.d.d.res.store (v' := v') (f' := f') (u' := u')).2 ?_) (by omega)
  cases hv : u.ownBlock with
  | none => exact .inl rfl
  | some k => exact .inr (some_ne7 (by have := (h.lst.lt k hv).1; omega))
theorem DoY.start {w w1 : World} {B m X : Nat} {z : List Int} {v : Value} {l : Lk} (h : DoX w w1 B z m X v l) : DoY w (w1.alloc (.cells #[] 9)) B z m X v l (.slice (some ⟨w1.heap.size, 0, none⟩) 0 0) [] := by
  have hl := h.d.cu.lt
  have hB := h.d.hB
  exact ⟨h.alloc _, own_base (own_lit (heap_alloc_new w1 _) (Nat.le_refl _)) (by omega), fun k hk e => by have e2 : w1.heap.size = k := Option.some.inj hk; have := h.box.lt; omega, fun k hk e => by have e2 : w1.heap.size = k := Option.some.inj e; have := (h.d.own.lt k hk).2; omega⟩
set_option maxRecDepth 100000 in
set_option maxHeartbeats 4000000 in
theorem drawAll_any (v : Value) (z : List Int) (w : World) (hrow : Row w v z.length (z.map (Value.int .u8))) (hz : ∀ x ∈ z, 0 ≤ x ∧ x < 256) :
    Calls Try.prog 31 #[v] w fun e w' => ∃ (v' : Value) (l : Lk) (u : Value) (t : List ByteArray), e = .returned (.tuple #[.agg #[v', .string l.f, .int .i64 l.u], u]) ∧ w'.ownsRow w.heap.size 9 1 v' l.q.length (l.q.map Value.string) ∧ w'.ownsRow w.heap.size 9 1 u t.length (t.map Value.string) ∧ l.f.size ≤ 50 ∧ l.q.length ≤ 30 ∧ t.length ≤ 30 ∧ Below w.heap.size w w' := by
  obtain ⟨i0, hi, hz0, hz1, hz2⟩ := info_parts infoStr
  obtain ⟨W, hW⟩ : ∃ W, W = (w.alloc (.cells #[.slice none 0 0, .string ⟨#[]⟩, .int .i64 0] 26)).alloc (.cells #[v, .int .i64 0, .int .u64 0] 70) := ⟨_, rfl⟩
  have HC : Hid (Cu W (w.heap.size + 1) z 0) := Lib.hid (by
    rw [hW]
    have := cu_new (w.alloc (.cells #[.slice none 0 0, .string ⟨#[]⟩, .int .i64 0] 26)) v z (hrow.below ((Below.refl _ _).alloc (Nat.le_refl _) _) (Nat.le_refl _)) hz
    rw [World.size_alloc] at this
    exact this)
  have HW := Lib.hid hW
  obtain ⟨a0, cap0, rfl, _, _, _⟩ := row_open hrow
  clear hW hrow hz
  go_enter Try.func31, Try.ntmps31
  go_upto_region 2 with fail
  rw [← HW.out]
  go_wp2_with fail
  refine (link_any (w.heap.size + 1) 0 z W HC.out (by omega)).mono ?_
  rintro e w1 ⟨v1, l, rfl, ho, hf, hq, hc, hg⟩
  have HD := Lib.hid (DoK.start HW.out ho hf hq hc hg)
  obtain ⟨a1, c1, rfl, _, _⟩ := own_someS0 HD.out.own
  clear ho hc hg
  go_upto_region 3 with fail
  obtain ⟨W2, hW2⟩ : ∃ W2, W2 = w1.alloc (.cells #[.slice a1 l.q.length c1, .string l.f, .int .i64 l.u] 26) := ⟨_, rfl⟩
  have HX : Hid (DoX w W2 (w.heap.size + 1) z (0 + 300) w1.heap.size (.slice a1 l.q.length c1) l) := Lib.hid (by rw [hW2]; exact DoX.new HD.out)
  rw [← hW2]
  obtain ⟨X, hX⟩ : ∃ X, X = w1.heap.size := ⟨_, rfl⟩
  rw [← hX] at HX ⊢
  clear hW2 hX HD
  have HY := Lib.hid (DoY.start HX.out)
  go_upto_region 4 with fail
  obtain ⟨W3, hW3⟩ : ∃ W3, W3 = W2.alloc (.cells #[] 9) := ⟨_, rfl⟩
  rw [← hW3] at HY ⊢
  clear hW3 HX
  go_wp2_with fail
  refine (pick_any (w.heap.size + 1) (0 + 300) 9 z _ HY.out.d.d.cu (by omega) (by omega) (by omega)).mono ?_
  rintro e w3 ⟨n2, hn2, rfl, hc, hg⟩
  have HY2 := Lib.hid ((HY.out.call hc hg).mono (show 0 + 300 + 2 ≤ 310 by omega))
  clear hc hg HY
  go_wp2_with fail
  go_loopw [6, 7] (fun y q wr => ∃ (k : Nat) (u : Value) (t : List ByteArray), t.length + k ≤ 8 ∧ q = .int .i64 k ∧ y = u ∧ Hid (DoY w wr (w.heap.size + 1) z (310 + 4 * t.length) X (.slice a1 l.q.length c1) l u t)) (fun _ q _ => (RowKit.intOf q).toNat)
  case atStart => exact ⟨n2, _, [], by simp; omega, rfl, rfl, HY2⟩
  case round =>
    clear HY2
    obtain ⟨k, u, t, hk, rfl, rfl, HL⟩ := hrel
    obtain ⟨a6, c6, rfl, _, _⟩ := own_someS0 HL.out.lst
    by_cases hkp : 0 < k
    · have hdc : decide ((0 : Int) < (k : Int)) = true := decide_eq_true (by omega)
      go_wp2_with fail
      refine (shortText_any (w.heap.size + 1) (310 + 4 * t.length) z _ HL.out.d.d.cu (by omega)).mono ?_
      rintro e w5 ⟨y, hy, rfl, hc, hg⟩
      have HL5 := Lib.hid (HL.out.call hc hg)
      clear hc hg HL
      have HL := HL5
      clear HL5
      go_wp2_with (at_builtin; refine wpList_append_own_at _ rfl _ _ 24 rfl (w.heap.size + 2) 9 i0 (.string ⟨#[]⟩) 1 16 Try.underlying24 hi hz0 hz1 hz2 rfl (by decide) _ t.length (t.map Value.string) rfl (HL.out.alloc (.cells #[.string y] 9)).lst ⟨_, 0, none⟩ 1 1 [.string y] rfl rfl (cell_one_new _ _ _) (by intro q hq; simp at hq; subst hq; rfl) (by unfold maxLen; omega) (by omega) (HL.out.alloc (.cells #[.string y] 9)).size2 ?_; intro v2 w6 hown2 hgrow2 hnil2 hat2; obtain ⟨a8, c8, rfl, _, _⟩ := own_someS0 hown2; have HD6 := Lib.hid (HL.out.app hown2 hgrow2 hat2); clear hown2 hgrow2 hnil2 hat2)
      go_wp2_with fail
      go_roundw
      case rel => exact ⟨k - 1, _, t ++ [y], by simp; omega, by congr 1; omega, rfl, Lib.hid (HD6.out.mono (by simp; omega))⟩
      case measure => (first | (simp [RowKit.intOf]; done) | (simp [RowKit.intOf]; omega))
    · obtain rfl : k = 0 := by omega
      go_wp2_with fail
      refine (one_any (w.heap.size + 1) (310 + 4 * t.length) 24 z _ HL.out.d.d.cu (by omega) (by omega) (by omega)).mono ?_
      rintro e w5 ⟨b, rfl, hc, hg⟩
      have HL5 := Lib.hid ((HL.out.call hc hg).mono (show 310 + 4 * t.length + 2 ≤ 400 + 2 * t.length by omega))
      clear hc hg HL
      have HL := HL5
      clear HL5
      cases b with
      | false =>
        go_upto_region 11 with fail
        obtain ⟨x0, x1, x2⟩ := HL.out.d.box.cells
        obtain ⟨y0, y1, y2⟩ := HL.out.d.d.res.cells
        have f0 := HL.out.d.d.res.free 0
        have f1 := HL.out.d.d.res.free 1
        have f2 := HL.out.d.d.res.free 2
        go_wp2_with fail
        obtain ⟨p1, o1, b1⟩ := HL.out.d.d.out (v' := .slice a1 l.q.length c1) (f' := l.f) (u' := l.u)
        exact bodyPost_ret (results_lk1 rfl _ _ w.heap.size rfl rfl p1) rfl ⟨_, l, _, t, rfl, o1, HL.out.lstOut, hf, hq, by omega, b1⟩
      | true =>
        go_wp2_with fail
        go_loopg [6] 40 (fun g y wr => ∃ (u : Value) (t : List ByteArray), t.length + g ≥ 40 ∧ t.length ≤ 22 ∧ y = u ∧ Hid (DoY w wr (w.heap.size + 1) z (400 + 2 * t.length) X (.slice a1 l.q.length c1) l u t))
        case atStart => exact ⟨_, t, by omega, by omega, rfl, HL⟩
        case round =>
          clear HL
          rename List ByteArray => t0
          obtain ⟨u, t, hg1, ht2, rfl, HL⟩ := hrel
          obtain ⟨a7, c7, rfl, _, _⟩ := own_someS0 HL.out.lst
          go_wp2_with fail
          refine (pick_any (w.heap.size + 1) (400 + 2 * t.length) 2 z _ HL.out.d.d.cu (by omega) (by omega) (by omega)).mono ?_
          rintro e w7 ⟨y, hy, rfl, hc, hg⟩
          have HL5 := Lib.hid (HL.out.call hc hg)
          clear hc hg HL
          have HL := HL5
          clear HL5
          have hw2 : IntKind.i64.wrap (20 + (y : Int)) = 20 + (y : Int) := IntWalk.i64_in _ (by omega)
          by_cases h7 : (t.length : Int) < 20 + (y : Int)
          · go_wp2_with (at_builtin; refine wpList_append_own_at _ rfl _ _ 24 rfl (w.heap.size + 2) 9 i0 (.string ⟨#[]⟩) 1 16 Try.underlying24 hi hz0 hz1 hz2 rfl (by decide) _ t.length (t.map Value.string) rfl (HL.out.alloc (.cells #[.string ⟨#[122]⟩] 9)).lst ⟨_, 0, none⟩ 1 1 [.string ⟨#[122]⟩] rfl rfl (cell_one_new _ _ _) (by intro q hq; simp at hq; subst hq; rfl) (by unfold maxLen; omega) (by omega) (HL.out.alloc (.cells #[.string ⟨#[122]⟩] 9)).size2 ?_; intro v2 w6 hown2 hgrow2 hnil2 hat2; obtain ⟨a8, c8, rfl, _, _⟩ := own_someS0 hown2; have HD6 := Lib.hid (HL.out.app hown2 hgrow2 hat2); clear hown2 hgrow2 hnil2 hat2)
            go_wp2_with fail
            go_roundg (gk - 1)
            case rel => exact ⟨_, t ++ [⟨#[122]⟩], by simp; omega, by simp; omega, rfl, Lib.hid (HD6.out.mono (by simp; omega))⟩
            case measure => omega
          · go_upto_region 11 with fail
            obtain ⟨x0, x1, x2⟩ := HL.out.d.box.cells
            obtain ⟨y0, y1, y2⟩ := HL.out.d.d.res.cells
            have f0 := HL.out.d.d.res.free 0
            have f1 := HL.out.d.d.res.free 1
            have f2 := HL.out.d.d.res.free 2
            go_wp2_with fail
            obtain ⟨p1, o1, b1⟩ := HL.out.d.d.out (v' := .slice a1 l.q.length c1) (f' := l.f) (u' := l.u)
            exact bodyPost_ret (results_lk1 rfl _ _ w.heap.size rfl rfl p1) rfl ⟨_, l, _, t, rfl, o1, HL.out.lstOut, hf, hq, by omega, b1⟩
end Go.Proofs.Ytbhhmaialilabaa
