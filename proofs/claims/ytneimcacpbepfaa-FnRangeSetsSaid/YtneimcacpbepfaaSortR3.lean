/-
  Ranges sorted by their first numbers: sortedBy of the program.
-/
import Derived.Test.YtneimcacpbepfaaSortR2
import Derived.Laws.AppendOwnNone
namespace Go.Proofs.Ytneimcacpbepfaa
open Go.RowKit Go.Lib Go.Joins
set_option linter.unusedVariables false

theorem ltR_cmp (x y : Rg) : ltR x y = decide (cmpZ x.1 y.1 < 0) := (cmpZ_neg _ _).symm
theorem rgF_nil : rgF [] = [] := rfl
set_option maxHeartbeats 2000000 in
theorem sortedByR_any (B : Nat) (v : Value) (xs : List Rg) (w : World) (hown : w.ownsRow B 58 2 v xs.length (rgF xs)) (hn2 : xs.length ≤ 20) :
    Calls Try.prog 70 #[v, .func (.func 71) #[] #[]] w fun e w' => ∃ v', e = .returned v' ∧
      w'.ownsRow w.heap.size 58 2 v' (sortG ltR xs).length (rgF (sortG ltR xs)) ∧ Below w.heap.size w w' := by
  obtain ⟨i0, hi, hz0, hz1, hz2⟩ := info_parts infoRg
  have eg : ∀ args w, (callFunc 76 args).run Try.prog w = .ok (.enter 76 args) w := enters_of Try.func76 (by kernel_rfl) rfl
  have HEG := Lib.hid eg
  have HR := Lib.hid (rowz_own hown)
  have hcase : (v = .slice none 0 0 ∧ xs = []) ∨ ∃ ad cap, v = .slice (some ad) xs.length cap := by
    obtain ⟨hl, ⟨rfl, h0⟩ | ⟨g, c, cur, rfl, _⟩⟩ := hown
    · exact .inl ⟨rfl, List.eq_nil_of_length_eq_zero h0⟩
    · exact .inr ⟨_, _, rfl⟩
  have hl := sortG_len ltR xs
  rw [hl]
  clear eg hown
  -- behind the append: the copy lies in a row of its own, the key in its cell
  have key : ∀ (w1 : World) (g1 c1 : Nat), w1.ownsRow (w.heap.size + 1) 58 2 (.slice (some ⟨g1, 0, none⟩) xs.length c1) xs.length (rgF xs) → Below w.heap.size w w1 →
      w1.cell? ⟨w.heap.size, 0, none⟩ = some (.func (.func 71) #[] #[]) → w.heap.size < w1.heap.size →
      Calls Try.prog 75 #[.slice (some ⟨g1, 0, none⟩) xs.length c1, .func (.func 76) #[] #[.pointer (some ⟨w.heap.size, 0, none⟩)]] w1 fun e w' => e = .returned (.tuple #[]) ∧
        w'.ownsRow w.heap.size 58 2 (.slice (some ⟨g1, 0, none⟩) xs.length c1) xs.length (rgF (sortG ltR xs)) ∧ Below w.heap.size w w' := by
    intro w1 g1 c1 ho hb hk hlt
    have hg1 := (ho.lt g1 rfl).1
    refine (stableFuncR_any ltR (fun x y => cmpZ x.1 y.1) ltR_cmp g1 c1 xs.length (w.heap.size + 1) xs 76 #[.pointer (some ⟨w.heap.size, 0, none⟩)] w1 HEG.out
      (fun W hW x y => cmpClosureR_any x.1 x.2 y.1 y.2 w.heap.size W (Nat.lt_of_lt_of_le hlt hW.size) (hW.cell hk (by intro e; have e2 : w.heap.size = g1 := Option.some.inj e; omega))) rfl hn2 ho).mono ?_
    rintro e w2 ⟨h1, h2, h3⟩
    exact ⟨h1, ownz_base h2 (by omega), hb.grown h3 hb.size (fun k hk => by have e2 : g1 = k := Option.some.inj hk; omega)⟩
  have HKey := Lib.hid key
  clear key
  have hb0 : Below w.heap.size w ((w.alloc (.cells #[.func (.func 71) #[] #[]] 77)).alloc (.cells #[] 58)) := ((Below.refl w.heap.size w).alloc (Nat.le_refl _) _).alloc (by simp) _
  have hk0 : ((w.alloc (.cells #[.func (.func 71) #[] #[]] 77)).alloc (.cells #[] 58)).cell? ⟨w.heap.size, 0, none⟩ = some (.func (.func 71) #[] #[]) := by
    have := heap_first w (.cells #[.func (.func 71) #[] #[]] 77) (.cells #[] 58)
    simp [World.cell?, this]
  have ho0 : ((w.alloc (.cells #[.func (.func 71) #[] #[]] 77)).alloc (.cells #[] 58)).ownsRow (w.heap.size + 1) 58 2 (.slice (some ⟨w.heap.size + 1, 0, none⟩) 0 0) 0 [] := by
    have h := lit_none (w.alloc (.cells #[.func (.func 71) #[] #[]] 77)) (w.heap.size + 1) (by simp)
    rw [rgF_nil] at h
    simpa using h
  have HB0 := Lib.hid hb0
  have HK0 := Lib.hid hk0
  have HO0 := Lib.hid ho0
  clear hb0 hk0 ho0
  rcases hcase with ⟨rfl, rfl⟩ | ⟨ad, cap, rfl⟩
  · go_enter Try.func70, Try.ntmps70
    go_wp2_with (at_builtin; refine wpList_append_own_none rfl _ _ 24 rfl (w.heap.size + 1) 58 i0 2 Try.underlying24 hi _ 0 [] rfl HO0.out rfl ?_)
    refine (HKey.out _ _ 0 HO0.out HB0.out HK0.out (by simp; omega)).mono ?_
    rintro e w2 ⟨rfl, ho, hb⟩
    have HO := Lib.hid ho
    have HB := Lib.hid hb
    clear ho hb
    go_wp2_with fail
    go_ret
    exact ⟨_, rfl, HO.out, HB.out⟩
  · go_enter Try.func70, Try.ntmps70
    go_wp2_with (at_builtin; refine wpList_append_own_at _ rfl _ _ 24 rfl (w.heap.size + 1) 58 i0 (.agg #[.int .i64 0, .int .i64 0]) 2 16 Try.underlying24 hi hz0 hz1 hz2 rfl (by decide) _ 0 [] rfl HO0.out ad xs.length cap (rgF xs) rfl (rgF_len xs) (row_news (HR.out.below HB0.out (Nat.le_refl _))) (rgF_one xs) (by unfold maxLen; omega) (by omega) (by simp) ?_; intro v1 w1 hown hgrow hnil hat)
    have hk1 := hgrow.cell HK0.out (by intro e; have e2 : w.heap.size = w.heap.size + 1 := Option.some.inj e; omega)
    have hb1 := HB0.out.grown hgrow HB0.out.size (fun k hk => by have e2 : w.heap.size + 1 = k := Option.some.inj hk; omega)
    have hlt1 : w.heap.size < w1.heap.size := Nat.lt_of_lt_of_le (by simp; omega) hgrow.size
    rw [Nat.zero_add, List.nil_append] at hown
    have hown0 := hown
    obtain ⟨hl2, ⟨hv, _⟩ | ⟨g1, c1, cur, rfl, hg1, _⟩⟩ := hown
    · cases (hnil.1 hv).1
    · have HS := Lib.hid (HKey.out w1 g1 c1 hown0 hb1 hk1 hlt1)
      clear hk1 hb1 hlt1 hown0 hgrow hnil hat hl2
      go_wp2_with fail
      refine HS.out.mono ?_
      rintro e w2 ⟨rfl, ho, hb⟩
      have HO := Lib.hid ho
      have HB := Lib.hid hb
      clear ho hb
      go_wp2_with fail
      go_ret
      exact ⟨_, rfl, HO.out, HB.out⟩
end Go.Proofs.Ytneimcacpbepfaa
