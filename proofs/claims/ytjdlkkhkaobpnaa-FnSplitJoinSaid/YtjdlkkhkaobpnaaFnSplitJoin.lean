/-
  The walk of the law FnSplitJoin.
-/
import Derived.Test.YtjdlkkhkaobpnaaFnSplit
import Derived.Test.YtjdlkkhkaobpnaaJoinS
import Derived.Test.YtjdlkkhkaobpnaaDraw2
import Derived.Test.YtjdlkkhkaobpnaaLess
namespace Go.Proofs.Ytjdlkkhkaobpnaa
open Go.RowKit

theorem vBig_any (a : Option Addr) (n cap : Nat) (w : World) :
    Calls Try.prog 8 #[.slice a n cap] w fun e w' => e = .returned (.bool (decide ((65536 : Int) < n))) ∧ w = w' := by
  go_enter Try.func8, Try.ntmps8
  go_wp2
  go_ret
  exact ⟨rfl, rfl⟩

theorem join_flat (c : UInt8) : ∀ (xs : List (List UInt8)) (x y : List UInt8), Lib.join ((x :: xs) ++ [y]) [c] = ((x :: xs).map (· ++ [c])).flatten ++ y
  | [], x, y => by
    rw [List.cons_append, Lib.join_cons]
    simp [Lib.joinTail]
  | x2 :: xs, x, y => by
    have ih := join_flat c xs x2 y
    rw [List.cons_append, Lib.join_cons]
    rw [List.cons_append, Lib.join_cons] at ih
    have e : Lib.joinTail [c] ((x2 :: xs) ++ [y]) = [c] ++ (x2 ++ Lib.joinTail [c] (xs ++ [y])) := by simp [Lib.joinTail]
    rw [e, ih]
    simp

theorem pl_partS (c : UInt8) (s : ByteArray) : M.pl (partS c s) = M.parts c s.data.toList := by
  unfold M.pl partS
  rw [List.map_map]
  have e : ((fun p : ByteArray => p.data.toList) ∘ fun l : List UInt8 => (⟨l.toArray⟩ : ByteArray)) = id := by funext l; simp
  rw [e, List.map_id]

theorem joined_partS (c : UInt8) (s : ByteArray) : M.joined (partS c s) c = s.data.toList := by
  unfold M.joined
  rw [pl_partS]
  have h := M.sp_text c s.data.toList
  unfold M.parts
  cases h1 : (M.sp c s.data.toList).1 with
  | nil =>
    rw [h1] at h
    rw [List.nil_append, Lib.join_one]
    simpa using h
  | cons x xs =>
    rw [h1] at h
    rw [join_flat]
    exact h

theorem fits_partS (c : UInt8) (s : ByteArray) (hs : s.size ≤ 4000) : M.fits (partS c s) c := by
  refine ⟨fun p hp => ?_, by rw [joined_partS]; simpa using hs⟩
  unfold partS at hp
  obtain ⟨l, hl, rfl⟩ := List.mem_map.1 hp
  unfold M.has
  rw [decide_eq_false_iff_not]
  exact M.parts_clean c _ l hl

theorem join_partS (c : UInt8) (s : ByteArray) (hs : s.size ≤ 4000) : joinOut (partS c s) ⟨#[c]⟩ = .tuple #[.string s, .bool true] := by
  rw [joinOut_yes (by unfold partS; simpa using M.parts_ne c s.data.toList) (fits_partS c s hs), joined_partS]

theorem le_sumLen : ∀ (ps : List ByteArray), ∀ p ∈ ps, p.size ≤ M.sumLen ps
  | [], p, h => by cases h
  | q :: ps, p, h => by
    have e : M.sumLen (q :: ps) = q.size + M.sumLen ps := by simp [M.sumLen]
    rcases List.mem_cons.1 h with rfl | h
    · omega
    · have := le_sumLen ps p h; omega
theorem partS_sizes (c : UInt8) (s : ByteArray) (hs : s.size ≤ 4000) : ∀ p ∈ partS c s, p.size ≤ 1048576 := fun p hp => by
  have h1 := le_sumLen _ p hp
  have h2 := M.joined_length (partS c s) c (by unfold partS; simpa using M.parts_ne c s.data.toList)
  rw [joined_partS] at h2
  have e : s.data.toList.length = s.size := by simp
  omega

theorem own_slice {w : World} {base n : Nat} {e : TypeId} {v : Value} {xs : List Value} (h : w.ownsRow base e 1 v n xs) : ∃ a cap, v = .slice a n cap := by
  obtain ⟨hl, ⟨rfl, rfl⟩ | ⟨g, cap, cur, rfl, _⟩⟩ := h
  · exact ⟨_, _, rfl⟩
  · exact ⟨_, _, rfl⟩

set_option maxRecDepth 100000 in
set_option maxHeartbeats 2000000 in
theorem fnSplitJoin_walk (w : World) (v0 : Value) (z0 : List Int) (w0 : Row w v0 z0.length (z0.map (Value.int .u8))) (b0 : ∀ z ∈ z0, (Lit.int .u8 z).wf = true) (_hsh : w.ShapedOpen Try.prog) :
    Calls Try.prog 3 #[v0] w fun e w' => e = .returned (.bool true) ∧ Below w.heap.size w w' := by
  have hz : ∀ x ∈ z0, 0 ≤ x ∧ x < 256 := fun x hx => by have := bounds_u8 (b0 x hx); omega
  obtain ⟨a0, cap0, e0, _, _, _⟩ := row_open w0
  by_cases hbig : (65536 : Int) < z0.length
  · subst e0
    have hd : decide ((65536 : Int) < (z0.length : Int)) = true := decide_eq_true hbig
    clear w0 b0 hz
    go_enter Try.func3, Try.ntmps3
    go_wp2_with (go_at_call 8; refine (vBig_any _ _ _ _).mono ?_; rintro e w' ⟨rfl, rfl⟩)
    go_ret
    exact ⟨rfl, Below.refl _ _⟩
  · have hd : decide ((65536 : Int) < (z0.length : Int)) = false := decide_eq_false hbig
    have HR := Lib.hid w0
    have HZ := Lib.hid hz
    have HD1 := Lib.hid (fun w hr => drawSplit_any v0 z0 w hr hz)
    have HD2 := Lib.hid (fun w hr => drawJoin_any v0 z0 w hr hz)
    have HD3 := Lib.hid (fun w hr => drawLess_any v0 z0 w hr hz)
    have HV : Hid (∀ w, Calls Try.prog 8 #[v0] w fun e w' => e = .returned (.bool false) ∧ w = w') := Lib.hid (fun w => by
      rw [e0, ← hd]; exact vBig_any _ _ _ w)
    clear w0 b0 hz e0 hd
    go_enter Try.func3, Try.ntmps3
    go_wp2_with fail
    refine (HV.out _).mono ?_
    rintro e w' ⟨rfl, rfl⟩
    go_wp2_with fail
    refine (HD1.out _ HR.out).mono ?_
    rintro e W1 ⟨s, sep, hs, hsep, rfl, l1⟩
    have r1 := HR.out.below l1 (Nat.le_refl _)
    go_wp2_with fail
    refine (implSplit_any s sep (by omega) (by omega) _).mono ?_
    rintro e W2 ⟨vl, rfl, o2, l2⟩
    have l12 := l1.trans (l2.mono l1.size)
    have r2 := HR.out.below l12 (Nat.le_refl _)
    go_wp2_with fail
    refine (HD2.out _ r2).mono ?_
    rintro e W3 ⟨vk, ks, mark, hk1, hk2, hm, rfl, o3, l3⟩
    have l13 := l12.trans (l3.mono l12.size)
    have r3 := HR.out.below l13 (Nat.le_refl _)
    have ol3 := own_below o2 l3 (Nat.le_refl _)
    obtain ⟨js, jb, hj⟩ := joinOut_form ks mark
    have HJ := Lib.hid hj
    clear hj
    go_wp2_with fail
    refine (implJoin_any vk ks mark _ (row_own o3) (by omega) (fun p hp => by have := hk2 p hp; omega) (by omega)).mono ?_
    rintro e W4 ⟨rfl, l4⟩
    rw [HJ.out]
    have ok4 := own_below o3 l4 (Nat.le_refl _)
    have l14 := l13.trans (l4.mono l13.size)
    have r4 := HR.out.below l14 (Nat.le_refl _)
    have ol4 := own_below ol3 l4 (Nat.le_refl _)
    go_wp2_with fail
    refine (specJoin_any vk ks mark _ (row_own ok4) (by omega) (fun p hp => by have := hk2 p hp; omega) (by omega)).mono ?_
    rintro e W5 ⟨rfl, l5⟩
    rw [HJ.out]
    have l15 := l14.trans (l5.mono l14.size)
    have r5 := HR.out.below l15 (Nat.le_refl _)
    have ol5 := own_below ol4 l5 (Nat.le_refl _)
    go_wp2_with fail
    refine (HD3.out _ r5).mono ?_
    rintro e W6 ⟨la, lb, rfl, l6⟩
    have l16 := l15.trans (l6.mono l15.size)
    have ol6 := own_below ol5 l6 (Nat.le_refl _)
    have hord : lessB la lb = false ∨ (lessB la lb = true ∧ lessB lb la = false) := by
      cases h : lessB la lb with
      | false => exact .inl rfl
      | true => exact .inr ⟨rfl, less_asymm _ _ h⟩
    by_cases hsep1 : sep.size = 1
    · obtain ⟨c, rfl⟩ := one_byte' sep hsep1
      obtain ⟨q1, q2⟩ := splitOk_yes (c := c) (s := s) (by omega)
      rw [q2] at ol6
      rw [q1]
      have HQ := Lib.hid (join_partS c s (by omega))
      have HS := Lib.hid (partS_sizes c s (by omega))
      have HN := Lib.hid (parts_count s c (by omega))
      clear q1 q2 hsep1 hsep o2 o3 ok4 ol3 ol4 ol5 r1 r2 r3 r4 r5
      rcases hord with hl1 | ⟨hl1, hl2⟩
      · go_wp2_with (first | (go_at_call 16; refine (specLess_any _ _ _).mono ?_; rintro e w' ⟨rfl, rfl⟩) | (go_at_call 15; refine (implLess_any _ _ _).mono ?_; rintro e w' ⟨rfl, rfl⟩))
        refine (implJoin_any vl (partS c s) ⟨#[c]⟩ _ (row_own ol6) (by have := HN.out; omega) HS.out (by show 1 ≤ _; omega)).mono ?_
        rintro e W7 ⟨rfl, l7⟩
        rw [HQ.out]
        go_wp2_with fail
        go_ret
        exact ⟨rfl, l16.trans (l7.mono l16.size)⟩
      · go_wp2_with (first | (go_at_call 16; refine (specLess_any _ _ _).mono ?_; rintro e w' ⟨rfl, rfl⟩) | (go_at_call 15; refine (implLess_any _ _ _).mono ?_; rintro e w' ⟨rfl, rfl⟩))
        refine (implJoin_any vl (partS c s) ⟨#[c]⟩ _ (row_own ol6) (by have := HN.out; omega) HS.out (by show 1 ≤ _; omega)).mono ?_
        rintro e W7 ⟨rfl, l7⟩
        rw [HQ.out]
        go_wp2_with fail
        go_ret
        exact ⟨rfl, l16.trans (l7.mono l16.size)⟩
    · obtain ⟨q1, q2⟩ := splitOk_no (s := s) (sep := sep) (fun h => hsep1 h.2)
      rw [q2] at ol6
      rw [q1]
      obtain ⟨al, cl, rfl⟩ := own_slice ol6
      have hx1 : ((sep.size : Int) == 1) = false := by simp; omega
      have hx2 : ((sep.size : Int) != 1) = true := by simp; omega
      clear q1 q2 hsep1 hsep o2 o3 ok4 ol3 ol4 ol5 r1 r2 r3 r4 r5 ol6
      rcases hord with hl1 | ⟨hl1, hl2⟩
      · go_wp2_with (first | (go_at_call 16; refine (specLess_any _ _ _).mono ?_; rintro e w' ⟨rfl, rfl⟩) | (go_at_call 15; refine (implLess_any _ _ _).mono ?_; rintro e w' ⟨rfl, rfl⟩))
        go_ret
        exact ⟨rfl, l16⟩
      · go_wp2_with (first | (go_at_call 16; refine (specLess_any _ _ _).mono ?_; rintro e w' ⟨rfl, rfl⟩) | (go_at_call 15; refine (implLess_any _ _ _).mono ?_; rintro e w' ⟨rfl, rfl⟩))
        go_ret
        exact ⟨rfl, l16⟩
end Go.Proofs.Ytjdlkkhkaobpnaa
