/-
  Links: the specification's functions that read: validity, the next letter.
-/
import Derived.Test.YtbhhmaialilabaaSer
import Derived.Test.YtbhhmaialilabaaOwn
import Derived.Test.YtbhhmaialilabaaInts
import Derived.Test.YtbhhmaialilabaaLinkMath
import Derived.Deep.QuietTactic
import Derived.BigQuiet
import Derived.IntWalk
import Derived.Deep.CutRange
import Derived.WalkLawsBesides
import Derived.Lib.SmallJoins
namespace Go.Proofs.Ytbhhmaialilabaa
open Go.RowKit Go.Lib Go.Joins
set_option linter.unusedVariables false

/-- The block of a link that came in: its queue, its letters, how many are used. -/
structure Lb (w : World) (R : Nat) (v : Value) (l : Lk) : Prop where
  box : w.heap[R]? = some (.cells #[v, .string l.f, .int .i64 l.u] 26 (0, 0))
  row : Row w v l.q.length (l.q.map Value.string)
theorem Lb.cells {w : World} {R : Nat} {v : Value} {l : Lk} (h : Lb w R v l) : w.cell? ⟨R, 0, none⟩ = some v ∧ w.cell? ⟨R, 1, none⟩ = some (.string l.f) ∧ w.cell? ⟨R, 2, none⟩ = some (.int .i64 l.u) := by
  have hb := h.box
  refine ⟨?_, ?_, ?_⟩ <;> simp [World.cell?, hb]
theorem Lb.lt {w : World} {R : Nat} {v : Value} {l : Lk} (h : Lb w R v l) : R < w.heap.size := (Array.getElem?_eq_some_iff.1 h.box).1
theorem Lb.below {w w' : World} {R : Nat} {v : Value} {l : Lk} (h : Lb w R v l) (hb : Below w.heap.size w w') : Lb w' R v l := ⟨(hb.block R h.lt).trans h.box, h.row.below hb (Nat.le_refl _)⟩
theorem Lb.new {w : World} {v : Value} {l : Lk} (h : Row w v l.q.length (l.q.map Value.string)) : Lb (w.alloc (.cells #[v, .string l.f, .int .i64 l.u] 26)) w.heap.size v l :=
  ⟨heap_alloc_new w _, h.below ((Below.refl _ _).alloc (Nat.le_refl _) _) (Nat.le_refl _)⟩
theorem Lb.get {w : World} {R k n cap : Nat} {a : Option Addr} {l : Lk} (h : Lb w R (.slice a n cap) l) (hk : k < l.q.length) : ∃ b off, a = some ⟨b, off, none⟩ ∧ w.cell? ⟨b, off + k, none⟩ = some (.string l.q[k]) := by
  obtain ⟨a', cap', e, _, _, hc⟩ := row_open h.row
  injection e with e1 _ _
  subst e1
  obtain ⟨b, off, e2, _, h1⟩ := hc k hk
  exact ⟨b, off, e2, h1⟩
set_option maxRecDepth 100000 in
theorem l7Fate_any (x : Int) (w : World) (h0 : 0 ≤ x) (h1 : x ≤ 255) :
    Calls Try.prog 74 #[.int .u8 x] w fun e w' => e = .returned (.int .i64 (fateI x)) ∧ w = w' := by
  by_cases e1 : x = 107
  · subst e1
    go_enter Try.func74, Try.ntmps74
    go_wp2
    go_ret
    exact ⟨rfl, rfl⟩
  have n1 : (x == 107) = false := by simp; exact e1
  by_cases e2 : x = 108
  · subst e2
    go_enter Try.func74, Try.ntmps74
    go_wp2
    go_ret
    exact ⟨rfl, rfl⟩
  have n2 : (x == 108) = false := by simp; exact e2
  by_cases e3 : x = 100
  · subst e3
    go_enter Try.func74, Try.ntmps74
    go_wp2
    go_ret
    exact ⟨rfl, rfl⟩
  have n3 : (x == 100) = false := by simp; exact e3
  by_cases e4 : x = 115
  · subst e4
    go_enter Try.func74, Try.ntmps74
    go_wp2
    go_ret
    exact ⟨rfl, rfl⟩
  have n4 : (x == 115) = false := by simp; exact e4
  have hf : fateI x = -1 := by unfold fateI; rw [if_neg e1, if_neg e2, if_neg e3, if_neg e4]
  rw [hf]
  clear hf e1 e2 e3 e4
  go_enter Try.func74, Try.ntmps74
  go_wp2
  go_ret
  exact ⟨rfl, rfl⟩
theorem bytes_take {s : ByteArray} {k : Nat} (hk : k < s.size) : s.data.toList.take (k + 1) = s.data.toList.take k ++ [s[k]] := by
  rw [List.take_succ_eq_append_getElem (by simpa using hk)]
  rfl
theorem byte_bd (b : UInt8) : (0 : Int) ≤ (b.toNat : Int) ∧ (b.toNat : Int) ≤ 255 := by
  have := b.toNat_lt
  omega
set_option maxRecDepth 100000 in
set_option maxHeartbeats 4000000 in
theorem l7Good_any (v : Value) (l : Lk) (w : World) (hrow : Row w v l.q.length (l.q.map Value.string)) (hf : l.f.size ≤ 1048576) :
    Calls Try.prog 61 #[.agg #[v, .string l.f, .int .i64 l.u]] w fun e w' => e = .returned (.bool (lkOk l)) ∧ Below w.heap.size w w' := by
  obtain ⟨W, hW⟩ : ∃ W, W = w.alloc (.cells #[v, .string l.f, .int .i64 l.u] 26) := ⟨_, rfl⟩
  have HT : Hid (Lb W w.heap.size v l) := Lib.hid (by rw [hW]; exact Lb.new hrow)
  have HB : Hid (Below w.heap.size w W) := Lib.hid (by rw [hW]; exact (Below.refl w.heap.size w).alloc (Nat.le_refl _) _)
  have HW := Lib.hid hW
  clear hW
  obtain ⟨a, cap, rfl, hc1, hm1, _⟩ := row_open hrow
  clear hrow
  unfold maxLen at hm1
  obtain ⟨n, hN⟩ : ∃ n, n = l.q.length := ⟨_, rfl⟩
  rw [← hN] at hc1 HT HW ⊢
  have HN := Lib.hid hN
  clear hN
  obtain ⟨R, hR⟩ : ∃ R, R = w.heap.size := ⟨_, rfl⟩
  rw [← hR] at HT
  have HR := Lib.hid hR
  clear hR
  obtain ⟨x0, x1, x2⟩ := HT.out.cells
  have HNo := Lib.hid (@lkOk_no l)
  have HRest := Lib.hid (@lkOk_rest l)
  go_enter Try.func61, Try.ntmps61
  go_upto_region 1 with fail
  rw [← HW.out, ← HR.out]
  go_wp2_with fail
  go_loop [3] (fun i => ∃ k : Nat, k ≤ n ∧ i = .int .i64 k ∧ Hid (∀ s ∈ l.q.take k, s.size ≤ 60)) (fun i => n - (RowKit.intOf i).toNat)
  case atStart => exact ⟨0, Nat.zero_le _, rfl, Lib.hid (by simp)⟩
  case round =>
    obtain ⟨k, hk, rfl, HA⟩ := hrel
    by_cases hkn : k < n
    · have hkq : k < l.q.length := by rw [← HN.out]; exact hkn
      obtain ⟨b, off, rfl, hck⟩ := HT.out.get (k := k) hkq
      have HP : Hid (l.q[k].size ≤ 60 → ∀ s ∈ l.q.take (k + 1), s.size ≤ 60) := Lib.hid (fun h s hs => by
        rw [List.take_succ_eq_append_getElem hkq] at hs
        rcases List.mem_append.1 hs with hs | hs
        · exact HA.out s hs
        · rw [List.mem_singleton.1 hs]; exact h)
      have HQ : Hid (¬ l.q[k].size ≤ 60 → lkOk l = false) := Lib.hid (fun h => HNo.out (fun hh => h (hh.1 _ (List.getElem_mem hkq))))
      generalize l.q[k] = s at hck HP HQ
      by_cases hs : s.size ≤ 60
      · have hs' : ¬ (60 : Int) < (s.size : Int) := by omega
        have HA2 := Lib.hid (HP.out hs)
        clear HP HQ HA
        go_wp2_with fail
        go_round
        case rel => exact ⟨k + 1, by omega, by go_num, HA2⟩
        case measure => (simp [RowKit.intOf]; omega)
      · have hs' : (60 : Int) < (s.size : Int) := by omega
        have HE := Lib.hid (HQ.out hs)
        clear HP HQ HA
        go_wp2_with fail
        go_ret
        exact ⟨ret_bool HE.out.symm, HB.out⟩
    · obtain rfl : k = n := by omega
      have HAll : Hid (∀ s ∈ l.q, s.size ≤ 60) := Lib.hid (fun s hs => HA.out s (by rw [List.take_of_length_le (by rw [← HN.out]; exact Nat.le_refl _)]; exact hs))
      clear HA
      obtain ⟨m, hM⟩ : ∃ m, m = l.f.size := ⟨_, rfl⟩
      have HM := Lib.hid hM
      clear hM
      go_wp2_with fail
      go_loop [4] (fun i => ∃ j : Nat, j ≤ m ∧ i = .int .i64 j ∧ Hid (∀ b ∈ l.f.data.toList.take j, 0 ≤ fateN b)) (fun i => m - (RowKit.intOf i).toNat)
      case atStart => exact ⟨0, Nat.zero_le _, rfl, Lib.hid (by simp)⟩
      case round =>
        obtain ⟨j, hj, rfl, HA⟩ := hrel
        by_cases hjm : j < m
        · have hjf : j < l.f.size := by rw [← HM.out]; exact hjm
          have HP : Hid (0 ≤ fateI (l.f[j].toNat : Int) → ∀ b ∈ l.f.data.toList.take (j + 1), 0 ≤ fateN b) := Lib.hid (fun h b hb => by
            rw [bytes_take hjf] at hb
            rcases List.mem_append.1 hb with hb | hb
            · exact HA.out b hb
            · rw [List.mem_singleton.1 hb, fateN_eq]; exact h)
          have HQ : Hid (¬ 0 ≤ fateI (l.f[j].toNat : Int) → lkOk l = false) := Lib.hid (fun h => HNo.out (fun hh => h (by
            rw [← fateN_eq]
            exact hh.2.1 _ (by
              have : l.f[j] = l.f.data.toList[j]'(by simpa using hjf) := rfl
              rw [this]
              exact List.getElem_mem _))))
          obtain ⟨y0, y1⟩ := byte_bd l.f[j]
          have HC := Lib.hid (fun (W1 : World) => l7Fate_any (l.f[j].toNat : Int) W1 y0 y1)
          generalize fateI (l.f[j].toNat : Int) = y at HC HP HQ
          clear y0 y1
          by_cases hy : 0 ≤ y
          · have hy' : ¬ y < 0 := by omega
            have HA2 := Lib.hid (HP.out hy)
            clear HP HQ HA
            go_wp2_with fail
            refine (HC.out _).mono ?_
            rintro e w2 ⟨rfl, rfl⟩
            go_wp2_with fail
            go_round
            case rel => exact ⟨j + 1, by omega, by go_num, HA2⟩
            case measure => (simp [RowKit.intOf]; omega)
          · have hy' : y < 0 := by omega
            have HE := Lib.hid (HQ.out hy)
            clear HP HQ HA
            go_wp2_with fail
            refine (HC.out _).mono ?_
            rintro e w2 ⟨rfl, rfl⟩
            go_wp2_with fail
            go_ret
            exact ⟨ret_bool HE.out.symm, HB.out⟩
        · obtain rfl : j = m := by omega
          have hjs : ¬ (j : Int) < (l.f.size : Int) := by have := HM.out; omega
          have HFs : Hid (∀ b ∈ l.f.data.toList, 0 ≤ fateN b) := Lib.hid (fun b hb => HA.out b (by rw [List.take_of_length_le (by rw [HM.out]; simp)]; exact hb))
          have HE := Lib.hid (HRest.out HAll.out HFs.out)
          clear HA HNo HRest HAll HFs
          by_cases h8 : k ≤ 8
          · have h8' : (k : Int) ≤ 8 := by omega
            by_cases h40 : l.f.size ≤ 40
            · have h40' : (l.f.size : Int) ≤ 40 := by omega
              have HI := Lib.hid (fun W1 => l1In_any l.u 0 l.f.size W1)
              have HE2 : Hid (inB l.u 0 l.f.size = lkOk l) := Lib.hid (by
                rw [HE.out, decide_eq_true (show l.q.length ≤ 8 by rw [← HN.out]; exact h8), decide_eq_true h40]
                unfold inB
                rw [Bool.eq_iff_iff]
                simp)
              clear HE
              go_wp2_with fail
              refine (HI.out _).mono ?_
              rintro e w2 ⟨rfl, rfl⟩
              go_wp2_with fail
              go_ret
              exact ⟨ret_bool HE2.out, HB.out⟩
            · have h40' : ¬ (l.f.size : Int) ≤ 40 := by omega
              have HE2 : Hid (false = lkOk l) := Lib.hid (by rw [HE.out, decide_eq_false h40, Bool.and_false, Bool.false_and])
              clear HE
              go_wp2_with fail
              go_ret
              exact ⟨ret_bool HE2.out, HB.out⟩
          · have h8' : ¬ (k : Int) ≤ 8 := by omega
            have HE2 : Hid (false = lkOk l) := Lib.hid (by rw [HE.out, decide_eq_false (show ¬ l.q.length ≤ 8 by rw [← HN.out]; exact h8), Bool.false_and, Bool.false_and])
            clear HE
            go_wp2_with fail
            go_ret
            exact ⟨ret_bool HE2.out, HB.out⟩
set_option maxRecDepth 100000 in
set_option maxHeartbeats 1000000 in
theorem l7Next_any (v : Value) (l : Lk) (w : World) (hrow : Row w v l.q.length (l.q.map Value.string)) (hok : lkOk l = true) :
    Calls Try.prog 62 #[.agg #[v, .string l.f, .int .i64 l.u]] w fun e w' => e = .returned (.int .u8 ((fateB l).toNat : Int)) ∧ Below w.heap.size w w' := by
  obtain ⟨W, hW⟩ : ∃ W, W = w.alloc (.cells #[v, .string l.f, .int .i64 l.u] 26) := ⟨_, rfl⟩
  have HT : Hid (Lb W w.heap.size v l) := Lib.hid (by rw [hW]; exact Lb.new hrow)
  have HB : Hid (Below w.heap.size w W) := Lib.hid (by rw [hW]; exact (Below.refl w.heap.size w).alloc (Nat.le_refl _) _)
  have HW := Lib.hid hW
  clear hW hrow
  obtain ⟨x0, x1, x2⟩ := HT.out.cells
  obtain ⟨_, _, _, h40, u0, u1⟩ := lkOk_parts hok
  obtain ⟨R, hR⟩ : ∃ R, R = w.heap.size := ⟨_, rfl⟩
  rw [← hR] at x0 x1 x2
  have HR := Lib.hid hR
  clear hR HT
  by_cases he : l.u = l.f.size
  · have HE := Lib.hid (fateB_end he)
    have hd : (l.u == (l.f.size : Int)) = true := by simp; exact he
    clear hok u0 u1 he
    go_enter Try.func62, Try.ntmps62
    go_upto_region 1 with fail
    rw [← HW.out, ← HR.out]
    go_wp2_with fail
    go_ret
    exact ⟨by rw [HE.out]; rfl, HB.out⟩
  · obtain ⟨k, hk, e1, e2⟩ := fateB_at hok he
    have HE := Lib.hid e2
    have hd : (l.u == (l.f.size : Int)) = false := by simp; exact he
    have HB2 := Lib.hid (byte_bd l.f[k])
    clear hok u0 u1 he e2
    rw [e1] at x2 hd HW ⊢
    go_enter Try.func62, Try.ntmps62
    go_upto_region 1 with fail
    rw [← HW.out, ← HR.out]
    go_wp2_with fail
    go_ret
    exact ⟨by rw [HE.out]; rfl, HB.out⟩
end Go.Proofs.Ytbhhmaialilabaa
