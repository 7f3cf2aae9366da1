/-
  JoinStrings of the specification.
-/
import Derived.Test.YtjdlkkhkaobpnaaJoin
import Derived.Laws.Concat
namespace Go.Proofs.Ytjdlkkhkaobpnaa
open Go.RowKit

theorem quiet_same {P : Program} {f : FuncId} {args : Array Value} {w : World} {n : Nat} {v : Value}
    (h : Calls P f args (w.drewN n) fun e w' => e = .returned v ∧ w.drewN n = w') : Calls P f args (w.drewN n) fun e w'' => e = .returned v ∧ ∃ m, w'' = w.drewN m :=
  h.mono fun _ _ ⟨he, hm⟩ => ⟨he, n, hm.symm⟩

theorem add_is {P : Program} (a b : ByteArray) (ha : a.size ≤ 4001) (hb : b.size ≤ 1048576) : ∃ o : ByteArray, (∀ W : World, (Op.stringOp .add a b).run P W = .ok (.string o) W) ∧ o.data.toList = a.data.toList ++ b.data.toList ∧ o.size = a.size + b.size :=
  ⟨a ++ b, fun W => run_string_add_sum W a b (by omega), by simp, by simp⟩

theorem mk_toList (o : ByteArray) (l : List UInt8) (h : o.data.toList = l) : o = ⟨l.toArray⟩ := by
  subst h; simp

theorem size_app3 (o p : ByteArray) (c : UInt8) : (o ++ ⟨#[c]⟩ ++ p).size = o.size + 1 + p.size := by
  rw [ByteArray.size_append, ByteArray.size_append]; rfl
theorem round_pos {ps : List ByteArray} {c : UInt8} {k : Nat} {o p : ByteArray} (hk : k < ps.length) (hp : p = ps[k]) (h0 : 0 < k) (h : o.data.toList = M.joined (ps.take k) c) :
    (o ++ ⟨#[c]⟩ ++ p).data.toList = M.joined (ps.take (k + 1)) c := by
  rw [M.take_snoc' ps k hk, M.joined_snoc _ _ _ (by intro e; have := congrArg List.length e; rw [List.length_take, List.length_nil] at this; omega), ← h, ← hp]
  simp
theorem round_zero {ps : List ByteArray} {c : UInt8} {k : Nat} {o p : ByteArray} (hk : k < ps.length) (hp : p = ps[k]) (h0 : ¬ 0 < k) (h : o.data.toList = M.joined (ps.take k) c) :
    (o ++ p).data.toList = M.joined (ps.take (k + 1)) c := by
  obtain rfl : k = 0 := by omega
  rw [M.take_snoc' ps 0 hk, List.take_zero, List.nil_append, M.joined_one, ← hp]
  rw [List.take_zero, M.joined_nil] at h
  simp [h]
theorem no_of_size {ps : List ByteArray} {c : UInt8} {k : Nat} {o2 : ByteArray} (hk : k < ps.length) (h : o2.data.toList = M.joined (ps.take (k + 1)) c) (hs : 4000 < o2.size) :
    joinOut ps ⟨#[c]⟩ = .tuple #[.string ⟨#[]⟩, .bool false] :=
  joinOut_no (M.fits_not_len' hk (by rw [← h]; simpa using hs))
theorem end_join {ps : List ByteArray} {c : UInt8} {o : ByteArray} (h0 : ps ≠ []) (h : o.data.toList = M.joined (ps.take ps.length) c) (hno : ∀ p ∈ ps.take ps.length, M.has p c = false) (hs : o.size ≤ 4000) :
    joinOut ps ⟨#[c]⟩ = .tuple #[.string o, .bool true] := by
  rw [List.take_of_length_le (Nat.le_refl _)] at h hno
  rw [joinOut_yes h0 ⟨hno, by rw [← h]; simpa using hs⟩, ← mk_toList o _ h]
theorem below_hid {w wr : World} (h : ∃ a, wr = w.drewN a) (n : Nat) : Below w.heap.size w (wr.drewN n) := by
  obtain ⟨a, rfl⟩ := h
  exact (bdrew _ _).trans (bdrew (w.drewN a) _)
theorem drew_hid {w wr : World} (h : ∃ a, wr = w.drewN a) (n : Nat) : ∃ a, wr.drewN n = w.drewN a := by
  obtain ⟨a, rfl⟩ := h
  exact ⟨a + n, by rw [World.drewN_drewN]⟩

set_option maxRecDepth 100000 in
set_option maxHeartbeats 2000000 in
theorem specJoin_any (v : Value) (ps : List ByteArray) (sep : ByteArray) (w : World) (hrow : Row w v ps.length (ps.map Value.string)) (hn : ps.length ≤ 1048576) (hp : ∀ p ∈ ps, p.size ≤ 1048576)
    (hs : sep.size ≤ 1048576) : Calls Try.prog 13 #[v, .string sep] w fun e w' => e = .returned (joinOut ps sep) ∧ Below w.heap.size w w' := by
  by_cases h1 : sep.size = 1
  · obtain ⟨c, rfl⟩ := one_byte sep h1
    clear h1 hs
    by_cases h0 : ps = []
    · subst h0
      rw [joinOut_none]
      obtain ⟨a, cap, rfl, _, _⟩ := row_none hrow
      clear hrow hp
      go_enter Try.func13, Try.ntmps13
      go_wp2_with fail
      go_ret2
      exact ⟨rfl, Below.refl _ _⟩
    · obtain ⟨b, off, cap, rfl, hc1, hc2, hb, hcell⟩ := row_pos hrow (by simpa using h0)
      have hpos : 0 < ps.length := List.length_pos_iff.2 h0
      have hz : ((ps.length : Int) == 0) = false := by simp; omega
      clear hrow
      have HC := Lib.hid (show ∀ i (h : i < ps.length), w.cell? ⟨b, off + i, none⟩ = some (.string ps[i]) from fun i h => by
        have := hcell i (by rw [List.length_map]; exact h)
        rw [List.getElem_map] at this
        exact this)
      have HP := Lib.hid hp
      have H0 := Lib.hid h0
      clear hcell hp h0
      obtain ⟨n, hN⟩ : ∃ n, n = ps.length := ⟨_, rfl⟩
      rw [← hN] at hn hpos hz hc1 ⊢
      have HN := Lib.hid hN
      clear hN
      go_enter Try.func13, Try.ntmps13
      go_wp2_with fail
      go_loopw [6, 7] (fun z i wr => ∃ (k : Nat) (o : ByteArray), k ≤ n ∧ i = .int .i64 k ∧ z = .string o ∧ Hid (o.data.toList = M.joined (ps.take k) c) ∧ Hid (∀ p ∈ ps.take k, M.has p c = false) ∧ o.size ≤ 4000 ∧ Hid (∃ a, wr = w.drewN a)) (fun _ i _ => n - (intOf i).toNat)
      case atStart => exact ⟨0, ⟨#[]⟩, Nat.zero_le _, rfl, rfl, Lib.hid rfl, Lib.hid (by simp), by decide, Lib.hid ⟨0, rfl⟩⟩
      case round =>
        obtain ⟨k, o, hk, rfl, rfl, HJ, HO, hle, HW⟩ := hrel
        by_cases hkn : k < n
        · have hkp : k < ps.length := by rw [← HN.out]; exact hkn
          have hck : wr.cell? ⟨b, off + k, none⟩ = some (.string ps[k]) := by
            obtain ⟨a, rfl⟩ := HW.out
            exact HC.out k hkp
          have hpk := HP.out _ (List.getElem_mem hkp)
          obtain ⟨p, hpe⟩ : ∃ p, p = ps[k] := ⟨_, rfl⟩
          rw [← hpe] at hck hpk
          have HE := Lib.hid hpe
          clear hpe
          have hpm : p.size ≤ maxLen := by unfold maxLen; omega
          cases hh : M.has p c with
          | true =>
            have HF := Lib.hid (joinOut_no (M.fits_not_has (c := c) hkp (by rw [← HE.out]; exact hh)))
            go_wp2_with fail
            go_quiet ((go_at_call 32; exact quiet_same (l1Stands_any p c hpm _)))
            rw [hh]
            go_wp2_with fail
            go_ret2
            exact ⟨by rw [HF.out]; rfl, below_hid HW.out _⟩
          | false =>
            have HA := Lib.hid (M.all_snoc hkp HO.out (by rw [← HE.out]; exact hh))
            by_cases h0k : 0 < k
            · have HR := Lib.hid (round_pos hkp HE.out h0k HJ.out)
              by_cases hbig : 4000 < o.size + 1 + p.size
              · have HF := Lib.hid (no_of_size hkp HR.out (by rw [size_app3]; exact hbig))
                go_wp2_with fail
                go_quiet ((go_at_call 32; exact quiet_same (l1Stands_any p c hpm _)))
                rw [hh]
                go_wp2_with fail
                go_ret2
                exact ⟨by rw [HF.out]; rfl, below_hid HW.out _⟩
              · go_wp2_with fail
                go_quiet ((go_at_call 32; exact quiet_same (l1Stands_any p c hpm _)))
                rw [hh]
                go_wp2_with fail
                go_roundw
                case rel => exact ⟨k + 1, _, by omega, by go_num, rfl, HR, HA, by rw [size_app3]; omega, Lib.hid (drew_hid HW.out _)⟩
                case measure => simp [intOf]; omega
            · have HR := Lib.hid (round_zero hkp HE.out h0k HJ.out)
              by_cases hbig : 4000 < o.size + p.size
              · have HF := Lib.hid (no_of_size hkp HR.out (by simp; omega))
                go_wp2_with fail
                go_quiet ((go_at_call 32; exact quiet_same (l1Stands_any p c hpm _)))
                rw [hh]
                go_wp2_with fail
                go_ret2
                exact ⟨by rw [HF.out]; rfl, below_hid HW.out _⟩
              · go_wp2_with fail
                go_quiet ((go_at_call 32; exact quiet_same (l1Stands_any p c hpm _)))
                rw [hh]
                go_wp2_with fail
                go_roundw
                case rel => exact ⟨k + 1, _, by omega, by go_num, rfl, HR, HA, by simp; omega, Lib.hid (drew_hid HW.out _)⟩
                case measure => simp [intOf]; omega
        · obtain rfl : k = n := by omega
          have HF := Lib.hid (end_join H0.out (by rw [← HN.out]; exact HJ.out) (by rw [← HN.out]; exact HO.out) hle)
          go_wp2_with fail
          go_ret2
          exact ⟨by rw [HF.out]; rfl, by obtain ⟨a, rfl⟩ := HW.out; exact bdrew _ _⟩
  · rw [joinOut_sep h1]
    have h1' : ((sep.size : Int) == 1) = false := by simp; omega
    obtain ⟨a, cap, rfl, _, _⟩ := row_none hrow
    clear hp h1 hrow
    go_enter Try.func13, Try.ntmps13
    go_wp2_with fail
    go_ret2
    exact ⟨rfl, Below.refl _ _⟩
end Go.Proofs.Ytjdlkkhkaobpnaa
