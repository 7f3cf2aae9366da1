/-
  slices.Clone at Slots.
-/
import Derived.Test.YtpmjdppipalfcaaSltR
import Derived.Deep.CutRange
import Derived.WalkLawsBesides
import Derived.Lib.SmallJoins
namespace Go.Proofs.Ytpmjdppipalfcaa
open Go.RowKit Go.Lib Go.Joins
set_option linter.unusedVariables false
set_option maxRecDepth 100000 in
set_option maxHeartbeats 1000000 in
theorem cloneSl_any (v : Value) (zs : List Sl) (w : World) (hrow : Row w v zs.length (slF zs)) (hfit : Fit v zs.length) (hn : zs.length ≤ 1000) :
    Calls Try.prog 74 #[v] w fun e w' => ∃ v', e = .returned v' ∧ w'.ownsRow w.heap.size 66 2 v' zs.length (slF zs) ∧ Below w.heap.size w w' := by
  obtain ⟨i0, hi, hz0, hz1, hz2⟩ := info_parts infoSl
  rcases hfit with ⟨rfl, h0⟩ | ⟨ad, c, rfl⟩
  · obtain rfl : zs = [] := List.eq_nil_of_length_eq_zero h0
    have hnil : ∀ W : World, (binOp .eql 24 (.slice none 0 0) (.slice none 0 0)).run Try.prog W = .ok (.bool true) W := fun W => Go.Lib.run_eql_slice_nil (P := Try.prog) W 24 66 none 0 0 0 0 Try.underlying24
    go_enter Try.func74, Try.ntmps74
    go_wp2_with fail
    go_ret
    exact ⟨_, rfl, ⟨rfl, .inl ⟨rfl, rfl⟩⟩, Below.refl _ _⟩
  · have hr0 := hrow
    obtain ⟨a1, c1, e1, hd1, hm1, _⟩ := hr0
    injection e1 with e1 _ e2
    subst e1; subst e2
    have hnil : ∀ W : World, (binOp .eql 24 (.slice (some ad) zs.length c) (.slice none 0 0)).run Try.prog W = .ok (.bool false) W := fun W => Go.Lib.run_eql_slice_nil (P := Try.prog) W 24 66 (some ad) zs.length c 0 0 Try.underlying24
    have HR := Lib.hid (hrow.below ((Below.refl w.heap.size w).alloc (Nat.le_refl _) (.cells #[] 66)) (Nat.le_refl _))
    have HO := Lib.hid (litz w w.heap.size 66 2 (Nat.le_refl _))
    have HL := Lib.hid (slF_len zs)
    clear hrow
    go_enter Try.func74, Try.ntmps74
    go_wp2_with (at_builtin; refine wpList_append_fit _ rfl _ _ 24 rfl w.heap.size 66 i0 (.agg #[.bool false, .string ⟨#[]⟩]) 2 24 Try.underlying24 hi hz0 hz1 hz2 rfl (by decide) _ 0 [] rfl HO.out _ zs.length (slF zs) rfl (fit_some _ _ _) HL.out HR.out (slF_one zs) (by unfold maxLen; omega) (by omega) (by simp) ?_; intro v1 w1 hown1 hgrow1; have hb1 : Below w.heap.size w w1 := ((Below.refl w.heap.size w).alloc (Nat.le_refl _) _).grown hgrow1 (by simp) (fun k hk => by have e : w.heap.size = k := Option.some.inj hk; omega); have HO1 := Lib.hid hown1; have HB1 := Lib.hid hb1; clear hown1 hgrow1 hb1)
    go_ret
    have h := HO1.out
    rw [Nat.zero_add, List.nil_append] at h
    exact ⟨_, rfl, h, HB1.out⟩
end Go.Proofs.Ytpmjdppipalfcaa
