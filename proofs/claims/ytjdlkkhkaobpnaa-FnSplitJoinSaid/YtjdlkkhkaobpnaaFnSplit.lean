/-
  The walk of the exact law of SplitString.
-/
import Derived.Test.YtjdlkkhkaobpnaaImplSplit
import Derived.Test.YtjdlkkhkaobpnaaMarkS
import Derived.Test.YtjdlkkhkaobpnaaStrs
namespace Go.Proofs.Ytjdlkkhkaobpnaa
open Go.RowKit

/-- An owned row, read. -/
theorem row_own {w : World} {base n : Nat} {e : TypeId} {v : Value} {xs : List Value} (h : w.ownsRow base e 1 v n xs) : Row w v n xs := by
  have h0 := h
  obtain ⟨hl, ⟨rfl, rfl⟩ | ⟨g, cap, cur, rfl, hb, hg, hn, hm, hs, ht⟩⟩ := h
  · exact ⟨none, 0, rfl, Nat.le_refl _, Nat.zero_le _, fun hx => absurd (List.eq_nil_of_length_eq_zero (by omega)) hx⟩
  · refine ⟨_, cap, rfl, hn, hm, fun _ => ⟨g, 0, rfl, (Array.getElem?_eq_some_iff.1 hg).1, fun i hi => ?_⟩⟩
    have := h0.cells (g := g) rfl i _ (List.getElem?_eq_getElem hi)
    rw [addr_add] at this
    exact this

/-- A row that is not empty begins at the head of a block of its own. -/
theorem own_form {w : World} {base n : Nat} {e : TypeId} {v : Value} {xs : List Value} (h : w.ownsRow base e 1 v n xs) (hn : 0 < n) : ∃ g cap, v = .slice (some ⟨g, 0, none⟩) n cap := by
  obtain ⟨hl, ⟨rfl, h0⟩ | ⟨g, cap, cur, rfl, _⟩⟩ := h
  · omega
  · exact ⟨g, cap, rfl⟩

theorem below_of_grown {B : Nat} {w w' : World} {row : Option Nat} (h : w.grownBy w' row) (hB : B ≤ w.heap.size) (hr : ∀ k, row = some k → B ≤ k) : Below B w w' := (Below.refl B w).grown h hB hr

theorem row_grown {w w' : World} {v : Value} {n g : Nat} {xs : List Value} (h : Row w v n xs) (hg : w.grownBy w' (some g)) (hne : ∀ b off, v = .slice (some ⟨b, off, none⟩) n (match v with | .slice _ _ c => c | _ => 0) → b ≠ g) : Row w' v n xs := by
  obtain ⟨a, cap, rfl, h1, h2, h3⟩ := h
  refine ⟨a, cap, rfl, h1, h2, fun hx => ?_⟩
  obtain ⟨b, off, rfl, hlt, hc⟩ := h3 hx
  refine ⟨b, off, rfl, Nat.lt_of_lt_of_le hlt hg.size, fun i hi => ?_⟩
  exact hg.cell (hc i hi) (by intro e; injection e with e; exact hne b off rfl e)

/-- 'markStringS' and 'heldStringS' at whatever row of the call's own: an empty one, too. -/
theorem mark_own (v : Value) (n k base : Nat) (xs : List Value) (w : World) (hown : w.ownsRow base 9 1 v n xs) (h0 : 1 ≤ k) (hk : k + n ≤ 100000000) :
    Calls Try.prog 19 #[v, .int .i64 k] w fun e w' => e = .returned (.int .i64 (k + n : Nat)) ∧
      w'.ownsRow base 9 1 v n (marks k n) ∧ w.grownBy w' v.ownBlock := by
  have h0' := hown
  obtain ⟨hl, ⟨rfl, rfl⟩ | ⟨g, cap, cur, rfl, hb, hg, hn, hm, hs, ht⟩⟩ := hown
  · clear h0' hl
    go_enter Try.func19, Try.ntmps19
    go_wp2_with fail
    refine wp_loop_rounds 1 ?_
    rw [rounds_succ]
    go_wp2_with fail
    go_ret
    exact ⟨rfl, by simpa [marks] using World.ownsRow_nil w base _ 1, ⟨rfl, rfl, rfl, Nat.le_refl _, fun _ _ _ => rfl⟩⟩
  · exact markStringS_any g n cap k base xs w h0' h0 hk

theorem held_own (v : Value) (n k base : Nat) (w : World) (hown : w.ownsRow base 9 1 v n (marks k n)) (h0 : 1 ≤ k) (hk : k + n ≤ 100000000) :
    Calls Try.prog 20 #[v, .int .i64 k] w fun e w' => e = .returned (.int .i64 (k + n : Nat)) ∧ w.grownBy w' none := by
  have h0' := hown
  obtain ⟨hl, ⟨rfl, rfl⟩ | ⟨g, cap, cur, rfl, hb, hg, hn, hm, hs, ht⟩⟩ := hown
  · clear h0' hl
    go_enter Try.func20, Try.ntmps20
    go_wp2_with fail
    refine wp_loop_rounds 1 ?_
    rw [rounds_succ]
    go_wp2_with fail
    go_ret
    exact ⟨rfl, ⟨rfl, rfl, rfl, Nat.le_refl _, fun _ _ _ => rfl⟩⟩
  · exact heldStringS_any g n cap k base w h0' h0 hk

theorem own_other {w w' : World} {b1 b2 n1 n2 : Nat} {e : TypeId} {v1 v2 : Value} {xs ys : List Value} (h1 : w.ownsRow b1 e 1 v1 n1 xs) (h2 : w.ownsRow b2 e 1 v2 n2 ys) (hlt : ∀ k, v1.ownBlock = some k → k < b2) (hg : w.grownBy w' v2.ownBlock) : w'.ownsRow b1 e 1 v1 n1 xs := by
  refine h1.kept hg ?_
  cases hv : v1.ownBlock with
  | none => exact .inl rfl
  | some k =>
    refine .inr fun e => ?_
    have := (h2.lt k e.symm).1
    have := hlt k hv
    omega

theorem own_below {w w' : World} {B b n : Nat} {e : TypeId} {v : Value} {xs : List Value} (h : w.ownsRow b e 1 v n xs) (hb : Below B w w') (hB : w.heap.size ≤ B) : w'.ownsRow b e 1 v n xs := by
  obtain ⟨hl, h | ⟨g, cap, cur, hv, h1, hg, rest⟩⟩ := h
  · exact ⟨hl, .inl h⟩
  · refine ⟨hl, .inr ⟨g, cap, cur, hv, h1, ?_, rest⟩⟩
    rw [hb.block g (Nat.lt_of_lt_of_le (Array.getElem?_eq_some_iff.1 hg).1 hB)]
    exact hg
theorem splitPs_len (s sep : ByteArray) : (splitPs s sep).length ≤ 4001 := by
  unfold splitPs
  split
  · rename_i h
    have : s.size ≤ 4000 ∧ sep.size = 1 := by
      unfold splitOk at h
      simpa using h
    exact parts_count s _ this.1
  · simp

set_option maxRecDepth 100000 in
set_option maxHeartbeats 2000000 in
theorem fnExactSplitString_walk (w : World) (a0 : ByteArray) (w0 : a0.size ≤ maxLen) (a1 : ByteArray) (w1 : a1.size ≤ maxLen) (_hsh : w.ShapedOpen Try.prog) :
    Calls Try.prog 4 #[.string a0, .string a1] w fun e w' => e = .returned (.bool true) ∧ Below w.heap.size w w' := by
  unfold maxLen at w0 w1
  by_cases h0 : a0.size ≤ 1048576
  · by_cases h1 : a1.size ≤ 1048576
    · have hlen := splitPs_len a0 a1
      obtain ⟨ps, hps⟩ : ∃ ps, splitPs a0 a1 = ps := ⟨_, rfl⟩
      obtain ⟨ok, hok⟩ : ∃ ok, splitOk a0 a1 = ok := ⟨_, rfl⟩
      have HSp := Lib.hid (fun w => specSplit_any a0 a1 h0 h1 w)
      have HIm := Lib.hid (fun w => implSplit_any a0 a1 h0 h1 w)
      rw [hps, hok] at HSp HIm
      rw [hps] at hlen
      have HL := Lib.hid hlen
      clear hps hok hlen
      have hlit : ((1 : Int)) = ((1 : Nat) : Int) := rfl
      have HT := Lib.hid hlit
      clear hlit
      go_enter Try.func4, Try.ntmps4
      go_wp2_with fail
      refine (HSp.out _).mono ?_
      rintro e W1 ⟨vs, rfl, os1, l1⟩
      go_wp2_with fail
      refine (HIm.out _).mono ?_
      rintro e W2 ⟨vg, rfl, og2, l2⟩
      have os2 := own_below os1 l2 (Nat.le_refl _)
      go_wp2_with fail
      refine (eqStringS_any vg vs ps ps _ (row_own og2) (row_own os2)).mono ?_
      rintro e W3 ⟨rfl, k3, rfl⟩
      have og3 := own_below og2 (bdrew W2 k3) (Nat.le_refl _)
      have os3 := own_below os2 (bdrew W2 k3) (Nat.le_refl _)
      go_wp2_with fail
      refine (mark_own vg ps.length 1 _ _ _ og3 (by omega) (by have := HL.out; omega)).mono ?_
      rintro e W4 ⟨rfl, og4, g4⟩
      have os4 := own_other os3 og3 (fun k hk => (os1.lt k hk).2) g4
      have hl2 := HL.out
      have b1 := l1.trans (l2.mono l1.size)
      have b3 := b1.trans ((bdrew W2 k3).mono b1.size)
      have b4 := b3.grown g4 b3.size (fun k hk => Nat.le_trans l1.size (og2.lt k hk).1)
      go_wp2_with fail
      refine (held_own vg ps.length 1 _ _ og4 (by omega) (by omega)).mono ?_
      rintro e W5 ⟨rfl, g5⟩
      have og5 := own_grown og4 g5
      have os5 := own_grown os4 g5
      have b5 := b4.grown g5 b4.size (by simp)
      go_wp2_with fail
      refine (HIm.out _).mono ?_
      rintro e W6 ⟨vh, rfl, oh6, l6⟩
      have og6 := own_below og5 l6 (Nat.le_refl _)
      have os6 := own_below os5 l6 (Nat.le_refl _)
      have b6 := b5.trans (l6.mono b5.size)
      go_wp2_with fail
      refine (eqStringS_any vh vs ps ps _ (row_own oh6) (row_own os6)).mono ?_
      rintro e W7 ⟨rfl, k7, rfl⟩
      have og7 := own_below og6 (bdrew W6 k7) (Nat.le_refl _)
      have b7 := b6.trans ((bdrew W6 k7).mono b6.size)
      go_wp2_with fail
      refine (held_own vg ps.length 1 _ _ og7 (by omega) (by omega)).mono ?_
      rintro e W8 ⟨rfl, g8⟩
      have b8 := b7.grown g8 b7.size (by simp)
      go_wp2_with fail
      go_ret
      exact ⟨rfl, b8⟩
    · go_enter Try.func4, Try.ntmps4
      go_wp2_with fail
      go_ret
      exact ⟨rfl, Below.refl _ _⟩
  · go_enter Try.func4, Try.ntmps4
    go_wp2_with fail
    go_ret
    exact ⟨rfl, Below.refl _ _⟩
end Go.Proofs.Ytjdlkkhkaobpnaa
