/-
  Proved: 'laws.FnExactTickSource' returns true for every input and leaves its argument as it was. Conditions: none.
  The frame is written by program (frame.py); the walk is 'fnExactTickSource_walk'.
-/
import Derived.Test.YtlendmiolhgecaaRows
import Derived.Test.YtlendmiolhgecaaTk2
import Derived.Test.YtlendmiolhgecaaBase
import Derived.WalkKit
import Derived.ProofKit
import Derived.OpenShut
import Derived.ShutString
import Derived.ChangeOld
import Derived.Below
import Derived.HandedShaped
import Derived.Test.YtlendmiolhgecaaAgg
import Derived.Lib.SmallJoins
import Derived.Test.YtlendmiolhgecaaAggN
import Derived.Test.YtlendmiolhgecaaHldW
namespace Go.Proofs.Ytlendmiolhgecaa.fnExactTickSource
open Go Go.ChangeShapes Go.WideShapes Go.ChangeAt Go.RowKit
open Go.ChangeMaps (open_string shut_string)
set_option linter.unusedVariables false

theorem own : ownKnob Try.prog.godebug = none := by kernel_rfl
theorem laidOut : laidOutB Try.prog = true := by kernel_rfl

theorem walk (w : World) (a0_0 : Int) (w0_0 : (Lit.int .i64 a0_0).wf = true) (a0_1 : Int) (w0_1 : (Lit.int .i64 a0_1).wf = true) (v0_2 : Value) (s0_2 : List ByteArray) (w0_2 : Row w v0_2 s0_2.length (s0_2.map Value.string)) (b0_2 : ∀ s ∈ s0_2, s.size ≤ maxLen) (a0_3 : Int) (w0_3 : (Lit.int .i64 a0_3).wf = true) (a0_4 : Int) (w0_4 : (Lit.int .i64 a0_4).wf = true) (v0_5 : Value) (z0_5 : List Hd) (w0_5 : Row w v0_5 z0_5.length (hdF z0_5)) (b0_5 : ∀ r ∈ z0_5, (Lit.int .i64 r.n).wf = true ∧ (Lit.int .i64 r.u).wf = true) (hsh : w.ShapedOpen Try.prog)  :
    Calls Try.prog 7 #[.agg #[.int .i64 a0_0, .int .i64 a0_1, v0_2, .int .i64 a0_3, .int .i64 a0_4, v0_5]] w fun e w' => e = .returned (.bool true) ∧ Below w.heap.size w w' :=
  Go.Proofs.Ytlendmiolhgecaa.fnExactTickSource_walk w a0_0 w0_0 a0_1 w0_1 v0_2 s0_2 w0_2 b0_2 a0_3 w0_3 a0_4 w0_4 v0_5 z0_5 w0_5 b0_5 hsh 

set_option maxRecDepth 100000 in
theorem lifted (os : Os) (started : os.Started) (H : Type) (enc : TypeId × Value → H) :
    ReturnsInHanded {} Try.checked os 7 .any (Rows.fnExactTickSourceSpec.pre6 enc Try.prog Try.f7 Rows.fnExactTickSourceRow.domain false) (Rows.fnExactTickSourceSpec.post enc Try.prog Try.f7 false true false false) := by
  refine returnsInHanded_of_change_shaped (C := Try.checked) own started (by kernel_rfl) Try.func7
    (ChangeSpec.witness6 (enc := enc) (C := Try.checked) false ⟨#[], #[.agg #[.int .i64 0, .int .i64 0, .slice none 0 0, .int .i64 0, .int .i64 0, .slice none 0 0]], []⟩ 8 (by kernel_rfl) (by kernel_rfl) (by kernel_rfl) (by kernel_rfl)) ?_
  intro W base args ds gs before hval0 hW _ _ hsh _
  have hval : ∀ (j : Nat) t v, Try.f7.params[j]? = some t → args[j]? = some v → Value.okWide Try.prog W .any base t v := hval0
  have hW' := hW
  obtain ⟨p, q, hA0, hV, rfl, hfz, hnd⟩ := hW
  have hA : DataW.TrodAll enc Try.prog W 0 (fun _ => true) true Try.f7.params.toList args.toList ds p := hA0
  rw [Try.params7] at hA hval
  obtain ⟨v0, vs0, d0, ds0, p0, q0, hargs, rfl, rfl, h0, r0⟩ := trodAll_cons hA
  obtain ⟨rfl, rfl, rfl⟩ := trodAll_nil r0
  obtain rfl : args = #[v0] := by cases args; simp_all
  obtain ⟨rfl, rfl⟩ := trodVars_none hV
  have k0 := h0
  have lt0 : ∀ x ∈ p0, x.block < W.heap.size := by obtain ⟨m, hm⟩ := k0; exact DataW.trod_lt m _ _ _ hm
  obtain ⟨u0_0, u0_1, u0_2, u0_3, u0_4, u0_5, y0_0, y0_1, y0_2, y0_3, y0_4, y0_5, m0, m0', rfl, rfl, rfl, t0_0, t0_1, t0_2, t0_3, t0_4, t0_5⟩ := open_agg3111 Try.underlying59 Try.underlying56 (by kernel_rfl) ⟨rfl, rfl, rfl, rfl, by kernel_rfl, by kernel_rfl, by kernel_rfl, by kernel_rfl⟩ (by kernel_rfl) (hval 0 59 v0 rfl rfl) h0
  obtain ⟨a0_0, c0_0, _, w0_0⟩ := DataW.trod_int Try.underlying3 t0_0
  simp only [List.cons.injEq, and_true] at c0_0
  subst c0_0
  obtain ⟨a0_1, c0_1, _, w0_1⟩ := DataW.trod_int Try.underlying3 t0_1
  simp only [List.cons.injEq, and_true] at c0_1
  subst c0_1
  obtain ⟨aa0_2, al0_2, ac0_2, c0_2⟩ := Go.Joins.slice_form Try.underlying24 t0_2
  simp only [List.cons.injEq, and_true] at c0_2
  subst c0_2
  obtain ⟨s0_2, w0_2, b0_2⟩ := row_strs Try.underlying24 Try.underlying9 (by kernel_rfl) ⟨_, _, _, rfl⟩ ⟨_, t0_2⟩
  obtain ⟨a0_3, c0_3, _, w0_3⟩ := DataW.trod_int Try.underlying3 t0_3
  simp only [List.cons.injEq, and_true] at c0_3
  subst c0_3
  obtain ⟨a0_4, c0_4, _, w0_4⟩ := DataW.trod_int Try.underlying3 t0_4
  simp only [List.cons.injEq, and_true] at c0_4
  subst c0_4
  obtain ⟨aa0_5, al0_5, ac0_5, c0_5⟩ := Go.Joins.slice_form Try.underlying57 t0_5
  simp only [List.cons.injEq, and_true] at c0_5
  subst c0_5
  obtain ⟨z0_5, w0_5, b0_5⟩ := row_Hd Try.underlying57 Try.underlying128 (by kernel_rfl) rfl rfl (by kernel_rfl) (by kernel_rfl) Try.underlying3 Try.underlying3 ⟨_, _, _, rfl⟩ ⟨_, t0_5⟩
  refine (walk W a0_0 w0_0 a0_1 w0_1 (.slice aa0_2 al0_2 ac0_2) s0_2 w0_2 b0_2 a0_3 w0_3 a0_4 w0_4 (.slice aa0_5 al0_5 ac0_5) z0_5 w0_5 b0_5 hsh ).mono fun e W' ⟨he, bel⟩ => ?_
  subst he
  exact ⟨_, rfl, _, _, _, [], _, [], hW', trodAll_mk1 (shut_bool Try.underlying4 _), (trodAll_cons_mk (Below.trod laidOut (by kernel_rfl) (of_decide_eq_true (by kernel_rfl)) k0 bel lt0) trodAll_mk0), rfl, bel.frame _, fun h => by cases h⟩

theorem over : Rows.fnExactTickSourceRow.holds Try.pinned (OpenSpec.ofChange Rows.fnExactTickSourceSpec) :=
  OpenClaim.holds_of_wide 7 Try.f7 rfl rfl rfl rfl rfl rfl rfl ⟨rfl, rfl, rfl, rfl, rfl⟩ rfl rfl rfl rfl rfl (by kernel_rfl) Try.func7 (by kernel_rfl)
    (of_decide_eq_true (by kernel_rfl)) (by unfold Func.isWrapper; first | (rw [if_pos (by decide +kernel)]; kernel_rfl) | (rw [if_neg (by decide +kernel)]; exact ⟨rfl, rfl⟩))
    (fun os started H enc _ => lifted os started H enc)

theorem proved : Rows.FnExactTickSourceSaid := over
#print axioms proved
end Go.Proofs.Ytlendmiolhgecaa.fnExactTickSource
