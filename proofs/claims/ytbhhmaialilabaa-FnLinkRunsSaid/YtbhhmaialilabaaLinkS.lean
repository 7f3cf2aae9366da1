/-
  Links: the laws' helpers: sizes, comparisons, marks, copies.
-/
import Derived.Test.YtbhhmaialilabaaLink2
import Derived.Test.YtbhhmaialilabaaStrs
import Derived.Test.YtbhhmaialilabaaMarkS
import Derived.Laws.ResultCell
import Derived.Laws.Rows
namespace Go.Proofs.Ytbhhmaialilabaa
open Go.RowKit Go.Lib Go.Joins
set_option linter.unusedVariables false

set_option maxHeartbeats 400000 in
theorem szStringS_le (v : Value) (ss : List ByteArray) (w : World) (hrow : Row w v ss.length (ss.map Value.string)) (hs : ∀ s ∈ ss, s.size ≤ maxLen) (left : Nat) (hl : left ≤ 1048576) :
    Calls Try.prog 49 #[v, .int .i64 left] w fun e w' => w = w' ∧ ∃ r : Int, e = .returned (.int .i64 r) ∧ (r < 0 ∨ (ss.length ≤ left ∧ (∀ s ∈ ss, s.size ≤ left) ∧ 0 ≤ r ∧ r ≤ left)) := by
  obtain ⟨n, hN⟩ : ∃ n, n = ss.length := ⟨_, rfl⟩
  obtain ⟨a, cap, rfl, hc1, hc2⟩ : ∃ a cap, v = .slice a ss.length cap ∧ ss.length ≤ cap ∧ cap ≤ maxLen := by
    obtain ⟨a, cap, rfl, h1, h2, _⟩ := hrow
    exact ⟨a, cap, rfl, h1, h2⟩
  have hcell : ∀ k (h : k < ss.length), ∃ b off, a = some ⟨b, off, none⟩ ∧ b < w.heap.size ∧ w.cell? ⟨b, off + k, none⟩ = some (.string ss[k]) := fun k h => by
    obtain ⟨a', cap', e, _, _, h3⟩ := hrow
    injection e with e1 e2 e3
    subst e1
    obtain ⟨b, off, rfl, hb, hc⟩ := h3 (by intro e; have := congrArg List.length e; simp at this; rw [this] at h; simp at h)
    refine ⟨b, off, rfl, hb, ?_⟩
    have := hc k (by rw [List.length_map]; exact h)
    rw [List.getElem_map] at this
    exact this
  have HC := Lib.hid hcell
  have HM := Lib.hid hs
  clear hcell hrow hs
  unfold maxLen at hc2
  rw [← hN] at hc1 ⊢
  have HN := Lib.hid hN
  clear hN
  by_cases hbig : (left : Int) < n
  · go_enter Try.func49, Try.ntmps49
    go_wp2_with fail
    go_ret
    exact ⟨rfl, _, rfl, .inl (by omega)⟩
  · go_enter Try.func49, Try.ntmps49
    go_wp2_with fail
    go_loop [1, 5] (fun z i => ∃ (k : Nat) (r : Nat), k ≤ n ∧ i = .int .i64 k ∧ z = .int .i64 r ∧ r ≤ left ∧ Hid (∀ s ∈ ss.take k, s.size ≤ left)) (fun _ i => n - (intOf i).toNat)
    case atStart => exact ⟨0, left - n, Nat.zero_le _, rfl, by congr 1; omega, by omega, Lib.hid (by simp)⟩
    case round =>
      obtain ⟨k, r, hk, rfl, rfl, hr, HA⟩ := hrel
      by_cases hkn : k < n
      · have hks : k < ss.length := by rw [← HN.out]; exact hkn
        obtain ⟨b, off, rfl, hb, hc⟩ := HC.out k hks
        have hum := HM.out _ (List.getElem_mem hks)
        obtain ⟨u, hu⟩ : ∃ u, u = ss[k] := ⟨_, rfl⟩
        rw [← hu] at hc hum
        have HU := Lib.hid hu
        clear hu
        unfold maxLen at hum
        by_cases hlt : (r : Int) < u.size
        · go_wp2
          go_ret
          exact ⟨rfl, _, rfl, .inl (by omega)⟩
        · have HB : Hid (∀ s ∈ ss.take (k + 1), s.size ≤ left) := Lib.hid (fun s hs => by
            rw [List.take_succ_eq_append_getElem hks] at hs
            rcases List.mem_append.1 hs with h1 | h1
            · exact HA.out s h1
            · simp at h1; subst h1; rw [← HU.out]; omega)
          go_wp2
          go_round
          case rel => exact ⟨k + 1, r - u.size, by omega, by go_num, by congr 1; omega, by omega, HB⟩
          case measure => simp [intOf]; omega
      · obtain rfl : k = n := by omega
        go_wp2
        go_ret
        exact ⟨rfl, _, rfl, .inr ⟨by omega, fun s hs => HA.out s (by rw [HN.out, List.take_of_length_le (Nat.le_refl _)]; exact hs), by omega, by omega⟩⟩
set_option maxRecDepth 100000 in
set_option maxHeartbeats 1000000 in
theorem szLink_any (v : Value) (l : Lk) (w : World) (hrow : Row w v l.q.length (l.q.map Value.string)) (hs : ∀ s ∈ l.q, s.size ≤ maxLen) (hf : l.f.size ≤ maxLen) (left : Nat) (hl : left ≤ 1048576) :
    Calls Try.prog 43 #[.agg #[v, .string l.f, .int .i64 l.u], .int .i64 left] w fun e w' => Below w.heap.size w w' ∧ ∃ r : Int, e = .returned (.int .i64 r) ∧ r ≤ 1048576 ∧ (r < 0 ∨ (l.q.length ≤ left ∧ (∀ s ∈ l.q, s.size ≤ left) ∧ l.f.size ≤ left ∧ 0 ≤ r)) := by
  obtain ⟨W, hW⟩ : ∃ W, W = w.alloc (.cells #[v, .string l.f, .int .i64 l.u] 55) := ⟨_, rfl⟩
  have hB : Below w.heap.size w W := by rw [hW]; exact (Below.refl w.heap.size w).alloc (Nat.le_refl _) _
  have HB := Lib.hid hB
  have HW := Lib.hid hW
  have hx : W.heap[w.heap.size]? = some (.cells #[v, .string l.f, .int .i64 l.u] 55 (0, 0)) := by rw [hW]; exact heap_alloc_new w _
  have x0 : W.cell? ⟨w.heap.size, 0, none⟩ = some v := by simp [World.cell?, hx]
  have x1 : W.cell? ⟨w.heap.size, 1, none⟩ = some (.string l.f) := by simp [World.cell?, hx]
  have HS := Lib.hid (szStringS_le v l.q W (hrow.below hB (Nat.le_refl _)) hs left hl)
  unfold maxLen at hf
  obtain ⟨R, hR⟩ : ∃ R, R = w.heap.size := ⟨_, rfl⟩
  rw [← hR] at x0 x1
  have HR := Lib.hid hR
  clear hW hR hB hx hrow hs
  go_enter Try.func43, Try.ntmps43
  go_upto_region 1 with fail
  rw [← HW.out, ← HR.out]
  go_wp2_with fail
  refine HS.out.mono ?_
  rintro e W2 ⟨rfl, r, rfl, hr⟩
  by_cases h0 : r < 0
  · clear hr
    go_wp2_with fail
    go_ret
    exact ⟨HB.out, -1, rfl, by omega, .inl (by omega)⟩
  · obtain ⟨h1, h2, h3, h4⟩ := hr.resolve_left h0
    have H2 := Lib.hid h2
    clear hr h2
    by_cases h5 : r - (l.f.size : Int) < 0
    · go_wp2_with fail
      go_ret
      exact ⟨HB.out, -1, rfl, by omega, .inl (by omega)⟩
    · go_wp2_with fail
      go_ret
      exact ⟨HB.out, r - l.f.size, rfl, by omega, .inr ⟨h1, H2.out, by omega, by omega⟩⟩
theorem eq_lk {l k : Lk} : l = k ↔ l.q = k.q ∧ l.f = k.f ∧ l.u = k.u := by
  constructor
  · rintro rfl; exact ⟨rfl, rfl, rfl⟩
  · obtain ⟨a, b, c⟩ := l
    obtain ⟨d, e, f⟩ := k
    rintro ⟨rfl, rfl, rfl⟩
    rfl
set_option maxRecDepth 100000 in
set_option maxHeartbeats 1000000 in
theorem eqLink_same (v1 v2 : Value) (l : Lk) (w : World) (h1 : Row w v1 l.q.length (l.q.map Value.string)) (h2 : Row w v2 l.q.length (l.q.map Value.string)) :
    Calls Try.prog 46 #[.agg #[v1, .string l.f, .int .i64 l.u], .agg #[v2, .string l.f, .int .i64 l.u]] w fun e w' => e = .returned (.bool true) ∧ Below w.heap.size w w' := by
  obtain ⟨W, hW⟩ : ∃ W, W = (w.alloc (.cells #[v1, .string l.f, .int .i64 l.u] 26)).alloc (.cells #[v2, .string l.f, .int .i64 l.u] 26) := ⟨_, rfl⟩
  have hB : Below w.heap.size w W := by rw [hW]; exact ((Below.refl w.heap.size w).alloc (Nat.le_refl _) _).alloc (by simp) _
  have hA : Lq W w.heap.size v1 l.f l.u := by rw [hW]; exact (Lq.new w _ _ _).below ((Below.refl _ _).alloc (Nat.le_refl _) _) (by simp)
  have hT : Lq W (w.heap.size + 1) v2 l.f l.u := by
    rw [hW]
    have := Lq.new (w.alloc (.cells #[v1, .string l.f, .int .i64 l.u] 26)) v2 l.f l.u
    rw [World.size_alloc] at this
    exact this
  have HE := Lib.hid (eqStringS_any v1 v2 l.q l.q W (h1.below hB (Nat.le_refl _)) (h2.below hB (Nat.le_refl _)))
  rw [decide_eq_true (rfl : l.q = l.q)] at HE
  have HW := Lib.hid hW
  have HB := Lib.hid hB
  have HA := Lib.hid hA
  have HT := Lib.hid hT
  obtain ⟨x0, x1, x2⟩ := hA.cells
  obtain ⟨y0, y1, y2⟩ := hT.cells
  obtain ⟨R, hR⟩ : ∃ R, R = w.heap.size := ⟨_, rfl⟩
  obtain ⟨R4, hR4⟩ : ∃ R4, R4 = w.heap.size + 1 := ⟨_, rfl⟩
  rw [← hR] at x0 x1 x2 HA
  rw [← hR4] at y0 y1 y2 HT
  have HR := Lib.hid hR
  have HR4 := Lib.hid hR4
  clear hW hB hA hT hR hR4 h1 h2
  go_enter Try.func46, Try.ntmps46
  go_upto_region 1 with fail
  rw [← HW.out, ← HR4.out, ← HR.out]
  go_wp2_with fail
  refine HE.out.mono ?_
  rintro e W2 ⟨rfl, k, hk⟩
  have l2 : Below W.heap.size W W2 := by rw [hk]; exact bdrew _ _
  have HB2 := Lib.hid (HB.out.trans (l2.mono HB.out.size))
  have HA2 := Lib.hid (HA.out.below l2 HA.out.lt)
  have HT2 := Lib.hid (HT.out.below l2 HT.out.lt)
  clear hk l2 x0 x1 x2 y0 y1 y2
  obtain ⟨x0, x1, x2⟩ := HA2.out.cells
  obtain ⟨y0, y1, y2⟩ := HT2.out.cells
  go_wp2_with fail
  go_ret
  exact ⟨rfl, HB2.out⟩
theorem markS_own (v : Value) (n k base : Nat) (xs : List Value) (w : World) (hown : w.ownsRow base 9 1 v n xs) (h0 : 1 ≤ k) (hk : k + n ≤ 100000000) :
    Calls Try.prog 52 #[v, .int .i64 k] w fun e w' => e = .returned (.int .i64 (k + n : Nat)) ∧ w'.ownsRow base 9 1 v n (marks k n) ∧ w.grownBy w' v.ownBlock := by
  have h0' := hown
  obtain ⟨hl, ⟨rfl, rfl⟩ | ⟨g, cap, cur, rfl, hb, hg, hn, hm, hs, ht⟩⟩ := hown
  · clear h0' hl
    go_enter Try.func52, Try.ntmps52
    go_wp2_with fail
    refine wp_loop_rounds 1 ?_
    rw [rounds_succ]
    go_wp2_with fail
    go_ret
    exact ⟨rfl, by simpa [marks] using World.ownsRow_nil w base _ 1, ⟨rfl, rfl, rfl, Nat.le_refl _, fun _ _ _ => rfl⟩⟩
  · exact markStringS_any g n cap k base xs w h0' h0 hk
theorem heldS_own (v : Value) (n k base : Nat) (w : World) (hown : w.ownsRow base 9 1 v n (marks k n)) (h0 : 1 ≤ k) (hk : k + n ≤ 100000000) :
    Calls Try.prog 53 #[v, .int .i64 k] w fun e w' => e = .returned (.int .i64 (k + n : Nat)) ∧ w.grownBy w' none := by
  have h0' := hown
  obtain ⟨hl, ⟨rfl, rfl⟩ | ⟨g, cap, cur, rfl, hb, hg, hn, hm, hs, ht⟩⟩ := hown
  · clear h0' hl
    go_enter Try.func53, Try.ntmps53
    go_wp2_with fail
    refine wp_loop_rounds 1 ?_
    rw [rounds_succ]
    go_wp2_with fail
    go_ret
    exact ⟨rfl, ⟨rfl, rfl, rfl, Nat.le_refl _, fun _ _ _ => rfl⟩⟩
  · exact heldStringS_any g n cap k base w h0' h0 hk
set_option maxRecDepth 100000 in
theorem markL_own (v : Value) (f : ByteArray) (u : Int) (n k base : Nat) (xs : List Value) (w : World) (hown : w.ownsRow base 9 1 v n xs) (h0 : 1 ≤ k) (hk : k + n ≤ 100000000) :
    Calls Try.prog 47 #[.agg #[v, .string f, .int .i64 u], .int .i64 k] w fun e w' => e = .returned (.int .i64 (k + n : Nat)) ∧ w'.ownsRow base 9 1 v n (marks k n) ∧ w.grownBy w' v.ownBlock := by
  obtain ⟨W, hW⟩ : ∃ W, W = w.alloc (.cells #[v, .string f, .int .i64 u] 26) := ⟨_, rfl⟩
  have HM := Lib.hid (markS_own v n k base xs W (by rw [hW]; exact own_grown hown (World.grownBy_alloc _ _ none)) h0 hk)
  have HG := Lib.hid (show w.grownBy W v.ownBlock by rw [hW]; exact World.grownBy_alloc w (.cells #[v, .string f, .int .i64 u] 26) v.ownBlock)
  have hA : Lq W w.heap.size v f u := by rw [hW]; exact Lq.new w v f u
  obtain ⟨x0, x1, x2⟩ := hA.cells
  have HW := Lib.hid hW
  obtain ⟨R, hR⟩ : ∃ R, R = w.heap.size := ⟨_, rfl⟩
  rw [← hR] at x0 x1 x2
  have HR := Lib.hid hR
  clear hown hW hR hA
  go_enter Try.func47, Try.ntmps47
  go_upto_region 1 with fail
  rw [← HW.out, ← HR.out]
  go_wp2_with fail
  refine HM.out.mono ?_
  rintro e W1 ⟨rfl, o1, g1⟩
  have HO := Lib.hid o1
  have HG2 := Lib.hid (grown_trans HG.out g1)
  clear o1 g1
  go_wp2_with fail
  go_ret
  exact ⟨rfl, HO.out, HG2.out⟩
set_option maxRecDepth 100000 in
theorem heldL_own (v : Value) (f : ByteArray) (u : Int) (n k base : Nat) (w : World) (hown : w.ownsRow base 9 1 v n (marks k n)) (h0 : 1 ≤ k) (hk : k + n ≤ 100000000) :
    Calls Try.prog 48 #[.agg #[v, .string f, .int .i64 u], .int .i64 k] w fun e w' => e = .returned (.int .i64 (k + n : Nat)) ∧ Below w.heap.size w w' := by
  obtain ⟨W, hW⟩ : ∃ W, W = w.alloc (.cells #[v, .string f, .int .i64 u] 26) := ⟨_, rfl⟩
  have HM := Lib.hid (heldS_own v n k base W (by rw [hW]; exact own_grown hown (World.grownBy_alloc _ _ none)) h0 hk)
  have HB := Lib.hid (show Below w.heap.size w W by rw [hW]; exact (Below.refl _ _).alloc (Nat.le_refl _) _)
  have hA : Lq W w.heap.size v f u := by rw [hW]; exact Lq.new w v f u
  obtain ⟨x0, x1, x2⟩ := hA.cells
  have HW := Lib.hid hW
  obtain ⟨R, hR⟩ : ∃ R, R = w.heap.size := ⟨_, rfl⟩
  rw [← hR] at x0 x1 x2
  have HR := Lib.hid hR
  have hd : ¬ ((k + n : Nat) : Int) < 0 := by omega
  clear hown hW hR hA
  go_enter Try.func48, Try.ntmps48
  go_upto_region 1 with fail
  rw [← HW.out, ← HR.out]
  go_wp2_with fail
  refine HM.out.mono ?_
  rintro e W1 ⟨rfl, g1⟩
  have HB2 := Lib.hid (HB.out.grown g1 HB.out.size (fun k hk => by cases hk))
  clear g1
  go_wp2_with fail
  go_ret
  exact ⟨rfl, HB2.out⟩
theorem toStringS_lit (v : Value) (ss : List ByteArray) (w : World) (hrow : Row w v ss.length (ss.map Value.string)) (hn : ss.length ≤ 1048576) :
    Calls Try.prog 50 #[v] w fun e w' => ∃ g : Nat, e = .returned (.slice (some ⟨g, 0, none⟩) ss.length ss.length) ∧ w'.ownsRow w.heap.size 9 1 (.slice (some ⟨g, 0, none⟩) ss.length ss.length) ss.length (ss.map Value.string) ∧ Below w.heap.size w w' :=
  (toStringS_any v ss w hrow hn).mono fun e w' ⟨h1, h2⟩ => ⟨w.heap.size, h1, by
    rw [h2]; exact own_made w _ _ _ (List.length_map _).symm (by unfold maxLen; omega), by
    rw [h2]; exact (Below.refl _ _).alloc (Nat.le_refl _) _⟩
/-- One cell of a link's block is stored into. -/
theorem Lq.put0 {w : World} {R : Nat} {v : Value} {f : ByteArray} {u : Int} (h : Lq w R v f u) (v' : Value) : Lq (w.setCell ⟨R, 0, none⟩ v') R v' f u ∧ w.grownBy (w.setCell ⟨R, 0, none⟩ v') (some R) := Lq.set (i := 0) h v'
theorem Lq.put1 {w : World} {R : Nat} {v : Value} {f : ByteArray} {u : Int} (h : Lq w R v f u) (f' : ByteArray) : Lq (w.setCell ⟨R, 1, none⟩ (.string f')) R v f' u ∧ w.grownBy (w.setCell ⟨R, 1, none⟩ (.string f')) (some R) := Lq.set (i := 1) h (.string f')
theorem Lq.put2 {w : World} {R : Nat} {v : Value} {f : ByteArray} {u : Int} (h : Lq w R v f u) (u' : Int) : Lq (w.setCell ⟨R, 2, none⟩ (.int .i64 u')) R v f u' ∧ w.grownBy (w.setCell ⟨R, 2, none⟩ (.int .i64 u')) (some R) := Lq.set (i := 2) h (.int .i64 u')
/-- What a copy of a link holds while it is made: the argument's block, the result's, the local's, the new queue. -/
structure Cp (w0 w : World) (A R L : Nat) (v : Value) (l : Lk) (v' : Value) (f' : ByteArray) (u' : Int) (q : Value) : Prop where
  arg : w.heap[A]? = some (.cells #[v, .string l.f, .int .i64 l.u] 55 (0, 0))
  res : Lq w R (.slice none 0 0) ⟨#[]⟩ 0
  loc : Lq w L v' f' u'
  row : w.ownsRow (w0.heap.size + 3) 9 1 q l.q.length (l.q.map Value.string)
  bel : Below w0.heap.size w0 w
  ar : A = w0.heap.size
  rr : R = w0.heap.size + 1
  lr : L = w0.heap.size + 2
theorem Cp.cells {w0 w : World} {A R L : Nat} {v : Value} {l : Lk} {v' : Value} {f' : ByteArray} {u' : Int} {q : Value} (h : Cp w0 w A R L v l v' f' u' q) :
    w.cell? ⟨A, 0, none⟩ = some v ∧ w.cell? ⟨A, 1, none⟩ = some (.string l.f) ∧ w.cell? ⟨A, 2, none⟩ = some (.int .i64 l.u) := by
  have hb := h.arg
  refine ⟨?_, ?_, ?_⟩ <;> simp [World.cell?, hb]
theorem Cp.step {w0 w w1 : World} {A R L : Nat} {v : Value} {l : Lk} {v' v2 : Value} {f' f2 : ByteArray} {u' u2 : Int} {q : Value} (h : Cp w0 w A R L v l v' f' u' q) (hl : Lq w1 L v2 f2 u2) (hg : w.grownBy w1 (some L)) : Cp w0 w1 A R L v l v2 f2 u2 q := by
  have hA := (Array.getElem?_eq_some_iff.1 h.arg).1
  have e1 := h.ar
  have e2 := h.rr
  have e3 := h.lr
  refine ⟨(hg.block A hA (fun e => by have := Option.some.inj e; omega)).trans h.arg, h.res.grown hg (fun e => by have := Option.some.inj e; omega), hl, h.row.kept hg ?_, h.bel.grown hg h.bel.size (fun k hk => by have e : L = k := Option.some.inj hk; omega), e1, e2, e3⟩
  cases hv : q.ownBlock with
  | none => exact .inl rfl
  | some k => exact .inr (fun e => by have := Option.some.inj e; have := (h.row.lt k hv).1; omega)
set_option maxRecDepth 100000 in
set_option maxHeartbeats 2000000 in
theorem toLink_lit (v : Value) (l : Lk) (w : World) (hrow : Row w v l.q.length (l.q.map Value.string)) (hn : l.q.length ≤ 1048576) :
    Calls Try.prog 45 #[.agg #[v, .string l.f, .int .i64 l.u]] w fun e w' => ∃ g : Nat, e = .returned (.agg #[.slice (some ⟨g, 0, none⟩) l.q.length l.q.length, .string l.f, .int .i64 l.u]) ∧ w'.ownsRow w.heap.size 9 1 (.slice (some ⟨g, 0, none⟩) l.q.length l.q.length) l.q.length (l.q.map Value.string) ∧ Below w.heap.size w w' := by
  obtain ⟨W3, hW3⟩ : ∃ W, W = ((w.alloc (.cells #[v, .string l.f, .int .i64 l.u] 55)).alloc (.cells #[.slice none 0 0, .string ⟨#[]⟩, .int .i64 0] 26)).alloc (.cells #[.slice none 0 0, .string ⟨#[]⟩, .int .i64 0] 26) := ⟨_, rfl⟩
  have hb3 : Below w.heap.size w W3 := by rw [hW3]; exact (((Below.refl w.heap.size w).alloc (Nat.le_refl _) _).alloc (by simp) _).alloc (by simp; omega) _
  have hs3 : W3.heap.size = w.heap.size + 3 := by rw [hW3]; simp
  have hA3 : W3.heap[w.heap.size]? = some (.cells #[v, .string l.f, .int .i64 l.u] 55 (0, 0)) := by
    rw [hW3]
    exact (Below.heap_alloc _ _ _ (by simp; omega)).trans ((Below.heap_alloc _ _ _ (by simp)).trans (heap_alloc_new w _))
  have hR3 : Lq W3 (w.heap.size + 1) (.slice none 0 0) ⟨#[]⟩ 0 := by
    rw [hW3]
    have := Lq.new (w.alloc (.cells #[v, .string l.f, .int .i64 l.u] 55)) (.slice none 0 0) ⟨#[]⟩ 0
    rw [World.size_alloc] at this
    exact (Below.heap_alloc _ _ _ (by simp)).trans this
  have hL3 : Lq W3 (w.heap.size + 2) (.slice none 0 0) ⟨#[]⟩ 0 := by
    rw [hW3]
    have := Lq.new ((w.alloc (.cells #[v, .string l.f, .int .i64 l.u] 55)).alloc (.cells #[.slice none 0 0, .string ⟨#[]⟩, .int .i64 0] 26)) (.slice none 0 0) ⟨#[]⟩ 0
    rw [World.size_alloc, World.size_alloc] at this
    exact this
  have HTo := Lib.hid (toStringS_lit v l.q W3 (hrow.below hb3 (Nat.le_refl _)) hn)
  have x0 : W3.cell? ⟨w.heap.size, 0, none⟩ = some v := by simp [World.cell?, hA3]
  have HS : Hid (∀ (W4 : World) (q : Value), Below W3.heap.size W3 W4 → W4.ownsRow W3.heap.size 9 1 q l.q.length (l.q.map Value.string) → Cp w W4 w.heap.size (w.heap.size + 1) (w.heap.size + 2) v l (.slice none 0 0) ⟨#[]⟩ 0 q) := Lib.hid (by
    intro W4 q l4 o4
    rw [hs3] at o4
    exact ⟨(l4.block _ (by omega)).trans hA3, hR3.below l4 (by omega), hL3.below l4 (by omega), o4, hb3.trans (l4.mono hb3.size), rfl, rfl, rfl⟩)
  have HW := Lib.hid hW3
  obtain ⟨A, hA⟩ : ∃ A, A = w.heap.size := ⟨_, rfl⟩
  obtain ⟨R, hR⟩ : ∃ R, R = w.heap.size + 1 := ⟨_, rfl⟩
  obtain ⟨L, hL⟩ : ∃ L, L = w.heap.size + 2 := ⟨_, rfl⟩
  rw [← hL, ← hR, ← hA] at HS
  rw [← hA] at x0
  have HA := Lib.hid hA
  have HR := Lib.hid hR
  have HL := Lib.hid hL
  have hL' : w.heap.size + 1 + 1 = L := by rw [hL]
  have HL2 := Lib.hid hL'
  clear hW3 hb3 hs3 hA3 hR3 hL3 hrow hA hR hL hL'
  go_enter Try.func45, Try.ntmps45
  go_upto_region 2 with fail
  rw [← HW.out, HL2.out, ← HR.out, ← HA.out]
  go_wp2_with fail
  refine HTo.out.mono ?_
  rintro e W4 ⟨g, rfl, o4, l4⟩
  have HC4 := Lib.hid (HS.out W4 _ l4 o4)
  clear o4 l4 HS HTo HW x0
  obtain ⟨y0, y1, y2⟩ := HC4.out.loc.cells
  have fy := HC4.out.loc.free 0
  go_upto_region 3 with fail
  obtain ⟨p1, q1⟩ := HC4.out.loc.put0 (.slice (some ⟨g, 0, none⟩) l.q.length l.q.length)
  have HC5 := Lib.hid (HC4.out.step p1 q1)
  obtain ⟨W5, hW5⟩ : ∃ W, W = W4.setCell ⟨L, 0, none⟩ (.slice (some ⟨g, 0, none⟩) l.q.length l.q.length) := ⟨_, rfl⟩
  rw [← hW5] at HC5 ⊢
  clear hW5 p1 q1 HC4 y0 y1 y2 fy
  obtain ⟨x0, x1, x2⟩ := HC5.out.cells
  obtain ⟨y0, y1, y2⟩ := HC5.out.loc.cells
  have fy := HC5.out.loc.free 1
  go_upto_region 4 with fail
  obtain ⟨p1, q1⟩ := HC5.out.loc.put1 l.f
  have HC6 := Lib.hid (HC5.out.step p1 q1)
  obtain ⟨W6, hW6⟩ : ∃ W, W = W5.setCell ⟨L, 1, none⟩ (.string l.f) := ⟨_, rfl⟩
  rw [← hW6] at HC6 ⊢
  clear hW6 p1 q1 HC5 y0 y1 y2 fy x0 x1 x2
  obtain ⟨x0, x1, x2⟩ := HC6.out.cells
  obtain ⟨y0, y1, y2⟩ := HC6.out.loc.cells
  have fy := HC6.out.loc.free 2
  go_upto_region 5 with fail
  obtain ⟨p1, q1⟩ := HC6.out.loc.put2 l.u
  have HC7 := Lib.hid (HC6.out.step p1 q1)
  obtain ⟨W7, hW7⟩ : ∃ W, W = W6.setCell ⟨L, 2, none⟩ (.int .i64 l.u) := ⟨_, rfl⟩
  rw [← hW7] at HC7 ⊢
  clear hW7 p1 q1 HC6 y0 y1 y2 fy x0 x1 x2
  obtain ⟨y0, y1, y2⟩ := HC7.out.loc.cells
  obtain ⟨z0, z1, z2⟩ := HC7.out.res.cells
  have f0 := HC7.out.res.free 0
  have f1 := HC7.out.res.free 1
  have f2 := HC7.out.res.free 2
  go_wp2_with fail
  obtain ⟨p1, q1⟩ := HC7.out.res.store (v' := .slice (some ⟨g, 0, none⟩) l.q.length l.q.length) (f' := l.f) (u' := l.u)
  refine bodyPost_ret (results_lk0 rfl _ _ R rfl p1) rfl ⟨g, rfl, own_base (HC7.out.row.kept q1 ?_) (by omega), HC7.out.bel.grown q1 HC7.out.bel.size (fun k hk => by have e2 : R = k := Option.some.inj hk; have := HR.out; omega)⟩
  exact .inr (fun e => by have e1 : g = R := Option.some.inj e; have := (HC7.out.row.lt g rfl).1; have := HR.out; omega)
end Go.Proofs.Ytbhhmaialilabaa
