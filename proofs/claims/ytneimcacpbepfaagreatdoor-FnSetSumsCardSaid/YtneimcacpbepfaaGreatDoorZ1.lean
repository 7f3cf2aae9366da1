/-
  What the law of sums of sets draws.
-/
import Derived.Test.YtneimcacpbepfaaGreatDoorDrawRng
import Derived.Test.YtneimcacpbepfaaGreatDoorDraw1
import Derived.Test.YtneimcacpbepfaaGreatDoorAmong
import Derived.Deep.QuietTactic
import Derived.BigQuiet
import Derived.Test.YtneimcacpbepfaaGreatDoorRngT
namespace Go.Proofs.YtneimcacpbepfaaGreatDoor
open Go.RowKit Go.Lib Go.Joins
set_option linter.unusedVariables false

theorem row_pre5 {w : World} {a : Option Addr} {n j cap : Nat} {xs : List Value} (h : Row w (.slice a n cap) n xs) (hx : xs.length = n) (hj : j ≤ n) : Row w (.slice a j cap) j (xs.take j) := by
  obtain ⟨a', cap', e, h1, h2, h3⟩ := h
  injection e with e1 _ e2
  subst e1; subst e2
  refine ⟨a, cap, rfl, by omega, h2, fun hne => ?_⟩
  obtain ⟨b, off, rfl, hlt, hc⟩ := h3 (fun e => hne (by rw [e]; simp))
  refine ⟨b, off, rfl, hlt, fun i hi => ?_⟩
  have hi' : i < xs.length := by rw [List.length_take] at hi; omega
  rw [hc i hi', List.getElem_take]
def edgeL (p q : Int) : List Int := [p, q, p - 1, q + 1]
theorem edgeL_len (p q : Int) : (edgeL p q).length = 4 := rfl
theorem edgeL_bd {p q : Int} (h : bdR (p, q)) : ∀ y ∈ edgeL p q, -2 ≤ y ∧ y ≤ 70001 := by
  obtain ⟨h1, h2, h3, h4⟩ := h
  simp only at h1 h2 h3 h4
  intro y hy
  simp only [edgeL, List.mem_cons, List.not_mem_nil, or_false] at hy
  omega
def numL5 : List Int := [0, 1, 6, 20, 65534, 65535, -1, 65536]
theorem numL5_bd (j : Nat) : ∀ y ∈ numL5.take j, -2 ≤ y ∧ y ≤ 65536 := by
  intro y hy
  have hy := List.mem_of_mem_take hy
  simp only [numL5, List.mem_cons, List.not_mem_nil, or_false] at hy
  omega
theorem numL5_len {j : Nat} (h : j ≤ 8) : (numL5.take j).length = j := by
  rw [List.length_take]
  show min j 8 = j
  omega
theorem row_num5 (w w2 : World) (t : TypeId) (g j : Nat) (hj : j ≤ 8) (hg0 : g = w.heap.size) {B : Nat} (hB : B < w.heap.size) (hg2 : (w.alloc (.cells (numL5.map (Value.int .i64)).toArray t)).grownBy w2 (some B)) :
    ∀ w', w2.grownBy w' (some B) → Row w' (.slice (some ⟨g, 0, none⟩) j 8) (numL5.take j).length ((numL5.take j).map (Value.int .i64)) := fun w' hg => by
  subst hg0
  have h := row_pre5 (j := j) (row_fresh (xs := numL5.map (Value.int .i64)) (n := 8) rfl (by decide) hB (g_trans hg2 hg)) rfl hj
  rw [numL5_len hj, List.map_take]
  exact h
end Go.Proofs.YtneimcacpbepfaaGreatDoor

namespace Go.Proofs.YtneimcacpbepfaaGreatDoor
open Go.RowKit Go.Lib Go.Joins
set_option linter.unusedVariables false

theorem gbelow5 {w w' : World} {B0 B : Nat} (h : w.grownBy w' (some B)) (hB : B0 ≤ w.heap.size) (hr : B0 ≤ B) : Below B0 w w' := (Below.refl B0 w).grown h hB (fun k e => by cases e; exact hr)
/-- A set that has been drawn, as the law gets it. -/
def Set5 (w w' : World) (g c : Nat) (zs : List Rg) : Prop := zs.length ≤ 11 ∧ w'.ownsRow w.heap.size 47 2 (.slice (some ⟨g, 0, none⟩) zs.length c) zs.length (rgF zs)
theorem drr_out {w w1 : World} {m g c : Nat} {z : List Int} {zs : List Rg} {o : Obj} (h : DrR (w.alloc o) w1 w.heap.size z m g c zs) (hl : zs.length ≤ 11) : Set5 w w1 g c zs ∧ Below w.heap.size w w1 :=
  ⟨⟨hl, ownz_base h.own (by simp)⟩, ((Below.refl _ _).alloc (Nat.le_refl _) _).trans (gbelow5 h.gr (by simp) (Nat.le_refl _))⟩
theorem DrR.rows {w0 w : World} {B m g c : Nat} {z : List Int} {zs : List Rg} (h : DrR w0 w B z m g c zs) : ∀ w', w.grownBy w' (some B) → Row w' (.slice (some ⟨g, 0, none⟩) zs.length c) zs.length (rgF zs) := fun w' hg => rowz_own (ownz_cur h.own hg h.lt)
def farL5 : List Int := [0, 1, 5, 30]
theorem farL5_bd : ∀ x ∈ farL5, 0 ≤ x ∧ x ≤ 30 := by
  intro x hx
  simp only [farL5, List.mem_cons, List.not_mem_nil, or_false] at hx
  omega
end Go.Proofs.YtneimcacpbepfaaGreatDoor

namespace Go.Proofs.YtneimcacpbepfaaGreatDoor
open Go.RowKit Go.Lib
set_option linter.unusedVariables false

theorem gdrewN (W : World) (n : Nat) (row : Option Nat) : W.grownBy (W.drewN n) row := ⟨rfl, rfl, rfl, Nat.le_refl _, fun _ _ _ => rfl⟩
set_option maxHeartbeats 1000000 in
theorem spoilt_any (B m : Nat) (z : List Int) (t u : ByteArray) (w : World) (h : Cu w B z m) (hm : m ≤ 600000) (ht : t.size ≤ 60000) (hu : 1 ≤ u.size) (hu2 : u.size ≤ 1000) :
    Calls Tryz.prog 38 #[.pointer (some ⟨B, 0, none⟩), .string t, .string u] w fun e w' => ∃ s : ByteArray, s.size ≤ t.size + 1 ∧ e = .returned (.string s) ∧ Cu w' B z (m + 6) ∧ w.grownBy w' (some B) := by
  have HH := Lib.hid h
  clear h
  have hu' : (1 : Int) ≤ (u.size : Int) := by omega
  by_cases h0 : t.size = 0
  · obtain rfl : t = ⟨#[]⟩ := ByteArray.ext (Array.eq_empty_of_size_eq_zero h0)
    clear h0
    go_enter Tryz.func38, Tryz.ntmps38
    go_wp2_with fail
    go_ret
    exact ⟨_, by simp; omega, rfl, HH.out.mono (by omega), g_refl _ _⟩
  · have hne : (t.toList == ([] : List UInt8)) = false := by
      rw [beq_eq_false_iff_ne]
      intro e
      apply h0
      rw [ByteArray.toList_eq] at e
      exact congrArg List.length e
    go_enter Tryz.func38, Tryz.ntmps38
    go_wp2_with fail
    refine (pick_any B m t.size z _ HH.out (by omega) (by omega) (by omega)).mono ?_
    rintro e w1 ⟨i, hi, rfl, hc, hg⟩
    have HC := Lib.hid hc
    have HG := Lib.hid hg
    clear hc hg HH
    go_wp2_with fail
    refine (pick_any B (m + 2) u.size z _ HC.out (by omega) (by omega) (by omega)).mono ?_
    rintro e w2 ⟨j, hj, rfl, hc, hg⟩
    have HC2 := Lib.hid hc
    have HG2 := Lib.hid (g_trans HG.out hg)
    clear hc hg HC HG
    go_wp2_with fail
    refine (pick_any B (m + 2 + 2) 3 z _ HC2.out (by omega) (by omega) (by omega)).mono ?_
    rintro e w3 ⟨p, hp, rfl, hc, hg⟩
    have HC3 := Lib.hid hc
    have HG3 := Lib.hid (g_trans HG2.out hg)
    clear hc hg HC2 HG2
    obtain ⟨c, hc⟩ : ∃ c, c = (u.extract j u.size).extract 0 1 := ⟨_, rfl⟩
    have hc1 : c.size ≤ 1 := by rw [hc]; simp; omega
    rw [← hc]
    clear hc
    have a1 : (t.extract 0 i).size = i := by simp; omega
    have a2 : (t.extract i t.size).size = t.size - i := by simp
    have a3 : (t.extract (i + 1) t.size).size = t.size - (i + 1) := by simp
    have a4 : (t.extract 0 i ++ c).size = i + c.size := by rw [ByteArray.size_append, a1]
    have b1 : (t.extract 0 i).size + c.size ≤ 9223372036854775807 := by omega
    have b2 : (t.extract 0 i ++ c).size + (t.extract i t.size).size ≤ 9223372036854775807 := by omega
    have b3 : (t.extract 0 i ++ c).size + (t.extract (i + 1) t.size).size ≤ 9223372036854775807 := by omega
    have b4 : (t.extract 0 i).size + (t.extract (i + 1) t.size).size ≤ 9223372036854775807 := by omega
    have i1 : (i : Int) ≤ (t.size : Int) := by omega
    have i2 : (i : Int) + 1 ≤ (t.size : Int) := by omega
    by_cases p0 : p = 0
    · subst p0
      go_wp2_with fail
      go_quiet (fail)
      go_wp2_with fail
      go_ret
      exact ⟨_, by rw [ByteArray.size_append, a4, a2]; omega, rfl, HC3.out, g_trans HG3.out (gdrewN _ _ _)⟩
    by_cases p1 : p = 1
    · subst p1
      go_wp2_with fail
      go_quiet (fail)
      go_wp2_with fail
      go_ret
      exact ⟨_, by rw [ByteArray.size_append, a4, a3]; omega, rfl, HC3.out, g_trans HG3.out (gdrewN _ _ _)⟩
    · have e0 : ¬ (p : Int) = 0 := by omega
      have e1 : ¬ (p : Int) = 1 := by omega
      clear p0 p1
      go_wp2_with fail
      go_quiet (fail)
      go_wp2_with fail
      go_ret
      exact ⟨_, by rw [ByteArray.size_append, a1, a3]; omega, rfl, HC3.out, g_trans HG3.out (gdrewN _ _ _)⟩
end Go.Proofs.YtneimcacpbepfaaGreatDoor

namespace Go.Proofs.YtneimcacpbepfaaGreatDoor
open Go.RowKit Go.Lib Go.Joins
set_option linter.unusedVariables false

theorem g_of_below {w w' : World} {row : Option Nat} (h : Below w.heap.size w w') : w.grownBy w' row := ⟨h.os, h.tape, h.output, h.size, fun k hk _ => h.block k hk⟩
set_option maxHeartbeats 1000000 in
theorem drawUnion5_any (v : Value) (z : List Int) (w : World) (hrow : Row w v z.length (z.map (Value.int .u8))) (hz : ∀ x ∈ z, 0 ≤ x ∧ x < 256) :
    Calls Tryz.prog 5 #[v] w fun e w' => ∃ (g c : Nat) (a : List Rg) (g2 c2 : Nat) (b : List Rg), e = .returned (.tuple #[.slice (some ⟨g, 0, none⟩) a.length c, .slice (some ⟨g2, 0, none⟩) b.length c2]) ∧ Set5 w w' g c a ∧ Set5 w w' g2 c2 b ∧ Below w.heap.size w w' := by
  have HC0 := Lib.hid (cu_new w v z hrow hz)
  obtain ⟨a0, cap0, rfl, _, _, _⟩ := row_open hrow
  clear hrow hz
  go_enter Tryz.func5, Tryz.ntmps5
  go_wp2_with fail
  refine (rangeSet_any w.heap.size 0 z _ HC0.out (by omega)).mono ?_
  rintro e w1 ⟨g, c, zs, rfl, hl, hd⟩
  have HD := Lib.hid hd
  clear hd HC0
  go_wp2_with fail
  refine (rangeSet_any w.heap.size (0 + 200) z _ HD.out.cu (by omega)).mono ?_
  rintro e w2 ⟨g2, c2, zs2, rfl, hl2, hd2⟩
  have HE := Lib.hid hd2
  have HD2 := Lib.hid (HD.out.cur hd2.cu hd2.gr)
  have hs := HD.out.gr.size
  clear hd2 HD
  go_wp2_with fail
  go_ret2
  obtain ⟨h1, h2⟩ := drr_out HD2.out hl
  have h3 : w.heap.size ≤ w1.heap.size := by simp at hs; omega
  exact ⟨g, c, zs, g2, c2, zs2, rfl, h1, ⟨hl2, ownz_base HE.out.own h3⟩, h2⟩
theorem drawIs5_any (v : Value) (z : List Int) (w : World) (hrow : Row w v z.length (z.map (Value.int .u8))) (hz : ∀ x ∈ z, 0 ≤ x ∧ x < 256) :
    Calls Tryz.prog 31 #[v] w fun e w' => ∃ (g c : Nat) (a : List Rg), e = .returned (.slice (some ⟨g, 0, none⟩) a.length c) ∧ Set5 w w' g c a ∧ Below w.heap.size w w' := by
  have HC0 := Lib.hid (cu_new w v z hrow hz)
  obtain ⟨a0, cap0, rfl, _, _, _⟩ := row_open hrow
  clear hrow hz
  go_enter Tryz.func31, Tryz.ntmps31
  go_wp2_with fail
  refine (rangeSet_any w.heap.size 0 z _ HC0.out (by omega)).mono ?_
  rintro e w1 ⟨g, c, zs, rfl, hl, hd⟩
  have HD := Lib.hid hd
  clear hd HC0
  go_wp2_with fail
  go_ret
  obtain ⟨h1, h2⟩ := drr_out HD.out hl
  exact ⟨g, c, zs, rfl, h1, h2⟩
theorem drawSetText5_any (v : Value) (z : List Int) (w : World) (hrow : Row w v z.length (z.map (Value.int .u8))) (hz : ∀ x ∈ z, 0 ≤ x ∧ x < 256) :
    Calls Tryz.prog 14 #[v] w fun e w' => ∃ (g c : Nat) (a : List Rg), e = .returned (.slice (some ⟨g, 0, none⟩) a.length c) ∧ Set5 w w' g c a ∧ Below w.heap.size w w' := by
  have HD := Lib.hid (drawIs5_any v z w hrow hz)
  obtain ⟨a0, cap0, rfl, _, _, _⟩ := row_open hrow
  clear hrow hz
  go_enter Tryz.func14, Tryz.ntmps14
  go_wp2_with fail
  refine HD.out.mono ?_
  rintro e w1 ⟨g, c, zs, rfl, h1, h2⟩
  have H1 := Lib.hid h1
  have H2 := Lib.hid h2
  clear h1 h2 HD
  go_wp2_with fail
  go_ret
  exact ⟨g, c, zs, rfl, H1.out, H2.out⟩
set_option maxHeartbeats 1000000 in
theorem drawParseSet_any (v : Value) (z : List Int) (w : World) (hrow : Row w v z.length (z.map (Value.int .u8))) (hz : ∀ x ∈ z, 0 ≤ x ∧ x < 256) :
    Calls Tryz.prog 19 #[v] w fun e w' => ∃ s : ByteArray, e = .returned (.string s) ∧ s.size ≤ 1000 ∧ Below w.heap.size w w' := by
  have HC0 := Lib.hid (cu_new w v z hrow hz)
  obtain ⟨a0, cap0, rfl, _, _, _⟩ := row_open hrow
  clear hrow hz
  go_enter Tryz.func19, Tryz.ntmps19
  go_wp2_with fail
  refine (rangeSet_any w.heap.size 0 z _ HC0.out (by omega)).mono ?_
  rintro e w1 ⟨g, c, zs, rfl, hl, hd⟩
  have HD := Lib.hid hd
  have HB1 := Lib.hid (drr_out hd hl).2
  have HX := Lib.hid (specSetText_any (.slice (some ⟨g, 0, none⟩) zs.length c) zs w1 (rowz_own hd.own))
  have htx := stV_size zs
  generalize stV zs = tx at HX htx
  generalize rgOk zs = b0 at HX
  clear hd HC0
  go_wp2_with fail
  refine HX.out.mono ?_
  rintro e w2 ⟨rfl, l2⟩
  have HCu := Lib.hid (HD.out.cu.grown (g_of_below l2))
  have HB2 := Lib.hid (HB1.out.trans (l2.mono HB1.out.size))
  clear l2 HX HD HB1
  go_wp2_with fail
  refine (one_any w.heap.size (0 + 200) 3 z _ HCu.out (by omega) (by omega) (by omega)).mono ?_
  rintro e w3 ⟨b, rfl, hc, hg⟩
  have HCu3 := Lib.hid hc
  have HB3 := Lib.hid (HB2.out.trans (gbelow5 hg HB2.out.size (Nat.le_refl _)))
  clear hc hg HCu HB2
  cases b with
  | true =>
    go_wp2_with fail
    refine (spoilt_any w.heap.size (0 + 200 + 2) z tx ⟨#[44, 45, 48, 110]⟩ _ HCu3.out (by omega) (by omega) (by decide) (by decide)).mono ?_
    rintro e w4 ⟨s, hs, rfl, hc, hg⟩
    have HB4 := Lib.hid (HB3.out.trans (gbelow5 hg HB3.out.size (Nat.le_refl _)))
    clear hc hg
    go_wp2_with fail
    go_ret
    exact ⟨s, rfl, by omega, HB4.out⟩
  | false =>
    go_wp2_with fail
    go_ret
    exact ⟨tx, rfl, by omega, HB3.out⟩
end Go.Proofs.YtneimcacpbepfaaGreatDoor
