/-
  slices.AppendSeq and slices.Collect at ints, over whatever iterator that names its list.
-/
import Derived.Test.YtejdphfcogfcmaaSeqL
import Derived.Test.YtejdphfcogfcmaaOwn
import Derived.Test.YtejdphfcogfcmaaInts
import Derived.Shelf.Abstract
import Derived.WalkKit
import Derived.OwnWalkIn
import Derived.TacticsInMore
import Derived.LoopNIn
import Derived.LoopIn
import Derived.Maps.AppendAt
import Derived.Sort.QuietIn
import Derived.Sort.LoopGhostIn
namespace Go.Proofs.Ytejdphfcogfcmaa
open Go.RowKit Go.Shelf
set_option linter.unusedVariables false

attribute [local go_sem] Oper.semAt_some

/-- Where no depth is asked the room is all one. -/
theorem anyRoom {P : Program} {m n f : Nat} {args : Array Value} {w : World} {R : Ending → World → Prop} (h : CallsIn Fence.wide m P f args w R) : CallsIn Fence.wide n P f args w R := callsIn_wide.2 (callsIn_wide.1 h)
/-- 'out = append(out, x)' in a round keeps what iterators want kept. -/
theorem keepL_appended {T : TypeId → Prop} {n₀ B' : Nat} {W w1 : World} {base B : Nat} {t e : TypeId} {v v' : Value} {k : Nat} {xs : List Value} {tmp : Obj} (hTe : ¬ T e) (hTt : ¬ T t) (hn : n₀ ≤ W.heap.size)
    (hv1 : Boxed w1 B t v) (hB : n₀ ≤ B) (hrow : W.ownsRow base e 1 v k xs) (hb : n₀ ≤ base) (hg : (W.alloc tmp).grownBy w1 v.ownBlock) : KeepL T n₀ B' W (w1.setCell ⟨B, 0, none⟩ v') := by
  have h1 : KeepL T n₀ B' W (W.alloc tmp) := KeepL.alloc W hn tmp
  have h2 : KeepL T n₀ B' (W.alloc tmp) w1 := KeepL.grown hg (by simp; omega) (fun q e => by
      rcases hrow.2 with ⟨rfl, _⟩ | ⟨g, cap, cur, rfl, hbg, _, _⟩
      · simp [Value.ownBlock] at e
      · obtain rfl : g = q := by simpa [Value.ownBlock] using e
        omega) (fun q o e hq => by
      rcases (hrow.alloc tmp).2 with ⟨rfl, _⟩ | ⟨g, cap, cur, rfl, _, hgb, _⟩
      · simp [Value.ownBlock] at e
      · obtain rfl : g = q := by simpa [Value.ownBlock] using e
        rw [hgb] at hq; cases hq
        exact ⟨_, _, _, rfl, hTe⟩)
  have hs : n₀ ≤ w1.heap.size := Nat.le_trans hn (h1.trans h2).below.size
  refine (h1.trans h2).trans (KeepL.grown (grownBy_setCell' w1 B v') hs (fun q e => by cases e; exact hB) (fun q o e hq => ?_))
  cases e
  rw [show w1.heap[B]? = _ from hv1] at hq; cases hq
  exact ⟨_, _, _, rfl, hTt⟩
abbrev encI (x : Int) : Array Value := #[.int .i64 x]
set_option maxRecDepth 100000 in
set_option maxHeartbeats 2000000 in
theorem appendSeq_in (T : TypeId → Prop) (hT1 : ¬ T 3) (hT2 : ¬ T 24) (g : Nat) (lb : Array Value) (eg : ∀ args w, (callFunc g args).run Try.prog w = .ok (.enter g args) w) (L : List Int) (hL : L.length ≤ 1000) (n₀ : Nat) (w0 w : World)
    (hseq : SeqL Try.prog g lb encI T n₀ L w0) (hb0 : Below w0.heap.size w0 w) (hn0 : n₀ ≤ w.heap.size) (n : Nat) (hn : 3 ≤ n) :
    CallsIn Fence.wide n Try.prog 65 #[.slice none 0 0, .func (.func g) #[] lb] w fun e W' => ∃ v, e = .returned v ∧ W'.ownsRow w.heap.size 3 1 v L.length (L.map (Value.int .i64)) ∧ Below w.heap.size w W' := by
  have h1 : 1 ≤ n := by omega
  obtain ⟨i0, hi, hz0, hz1, hz2⟩ := info_parts infoInt
  refine callsIn_of_wp_marks Try.func65 rfl trivial ?_ rfl
  simp only [Try.ntmps65, List.size_toArray, List.length_cons, List.length_nil, Nat.reduceAdd, Nat.reduceSub, Array.replicate_succ, Array.replicate_zero, List.push_toArray, List.append_toArray, List.nil_append, List.cons_append]
  gi_wp2
  have bO : Boxed (w.alloc (.cells #[.slice none 0 0] 24)) w.heap.size 24 (.slice none 0 0) := Boxed.new w _ _
  have hB0 : Below w.heap.size w (w.alloc (.cells #[.slice none 0 0] 24)) := (Below.refl _ w).alloc (Nat.le_refl _) _
  refine range_L (gf := g) (lb := lb) (by first | rfl | simp [go_sem]) eg (hseq.later hb0) ((Below.refl _ w).alloc (Nat.le_refl _) _) (by simp; omega) (fun _ => rfl)
    (fun pre W => (∃ v, Boxed W w.heap.size 24 v ∧ W.ownsRow w.heap.size 3 1 v pre.length (pre.map (Value.int .i64)) ∧ True) ∧ Below w.heap.size w W)
    (fun _ _ _ => False) ?hI (fun _ _ _ _ _ hs _ _ => hs) ⟨⟨_, bO, World.ownsRow_nil _ _ _ _, trivial⟩, hB0⟩ ?a1 ?assign ?body ?done ?stop
  case hI =>
    exact OwnFrom.and (Own.from (holdsRow_own w.heap.size w.heap.size 24 3 1 (fun pre : List Int => pre.length) (fun pre => pre.map (Value.int .i64)) (fun _ _ => True)) _) (ownFrom_below (Nat.le_refl _) (by simp))
  case assign =>
    intro m l x W K hK
    gi_wp2
    exact hK
  case body =>
    rintro m l pre x W ⟨⟨v, hv, hrow, _⟩, hB⟩ hpre
    have hc := hv.cell
    have hpl : pre.length < 1000 := by
      have := hpre.length_le
      simp at this
      omega
    clear hpre
    have hws := hB.size
    gi_wp2_with (gi_at_builtin; refine wpListIn_append_own _ rfl _ _ 24 rfl w.heap.size 3 i0 (.int .i64 0) 1 8 Try.underlying24 hi hz0 hz1 hz2 rfl (by decide) _ _ _ rfl (hrow.alloc _) ⟨W.heap.size, 0, none⟩ 1 1 [.int .i64 x] rfl rfl (cell_one_new _ _ _) (by simp [Value.oneCell']) (by unfold maxLen; omega) (by omega) (by simp; omega) ?_; intro v' w1 hown' hgrow _; obtain ⟨g', cap', rfl⟩ := ownsRow_succ hown'; obtain ⟨hv1, hv2, hr2, hk2, hb2⟩ := hv.appended (by decide) hrow hB.size (Nat.le_refl _) hown' hgrow; have hc1 := hv1.cell; have hf1 := hv1.frozen)
    exact ⟨keepL_appended hT1 hT2 (Nat.le_trans hn0 hws) hv1 hn0 hrow hn0 hgrow, ⟨_, hv2, by simpa using hr2, trivial⟩, hB.trans hb2⟩
  case done =>
    rintro D W hD ⟨⟨v, hv, hrow, _⟩, hB⟩ hK
    have hc := hv.cell
    gi_wp2
    refine ⟨by simp, .inl ⟨_, _, rfl, run_takeDeferred hK, ?_⟩⟩
    exact ⟨_, results_tmp rfl _ _ _, v, rfl, ownsRow_putObj hrow _ hK rfl, hB.trans (belowK_b (w := w) (Nat.le_refl _) W D _ _ (by simp at hD; omega) hK rfl rfl)⟩
  case stop =>
    rintro D c pre W _ _ h _
    exact h.elim
theorem collect_any (T : TypeId → Prop) (hT1 : ¬ T 3) (hT2 : ¬ T 24) (g : Nat) (lb : Array Value) (eg : ∀ args w, (callFunc g args).run Try.prog w = .ok (.enter g args) w) (L : List Int) (hL : L.length ≤ 1000) (n₀ : Nat) (w : World)
    (hseq : SeqL Try.prog g lb encI T n₀ L w) (hn0 : n₀ ≤ w.heap.size) :
    Calls Try.prog 44 #[.func (.func g) #[] lb] w fun e W' => ∃ v, e = .returned v ∧ W'.ownsRow w.heap.size 3 1 v L.length (L.map (Value.int .i64)) ∧ Below w.heap.size w W' := by
  have HC := Lib.hid (callsIn_wide.1 (appendSeq_in T hT1 hT2 g lb eg L hL n₀ w w hseq (Below.refl _ _) hn0 3 (Nat.le_refl _)))
  clear hseq eg
  go_enter Try.func44, Try.ntmps44
  go_wp2_with fail
  refine HC.out.mono ?_
  rintro e W ⟨v, rfl, o, l⟩
  have HO := Lib.hid o
  have HB := Lib.hid l
  clear o l
  go_wp2_with fail
  go_ret
  exact ⟨v, rfl, HO.out, HB.out⟩
end Go.Proofs.Ytejdphfcogfcmaa
