/-
  The draws of chapter 7 as the laws call them: a text to drop, texts to send.
-/
import Derived.Test.YtbhhmaialilabaaDrawLink3
namespace Go.Proofs.Ytbhhmaialilabaa
open Go.RowKit Go.Lib Go.Joins
set_option linter.unusedVariables false

set_option maxRecDepth 100000 in
set_option maxHeartbeats 2000000 in
theorem drawDrop_any (v : Value) (z : List Int) (w : World) (hrow : Row w v z.length (z.map (Value.int .u8))) (hz : ∀ x ∈ z, 0 ≤ x ∧ x < 256) :
    Calls Try.prog 26 #[v] w fun e w' => ∃ (v' : Value) (l : Lk) (i : Int), e = .returned (.tuple #[.agg #[v', .string l.f, .int .i64 l.u], .int .i64 i]) ∧ w'.ownsRow w.heap.size 9 1 v' l.q.length (l.q.map Value.string) ∧ l.f.size ≤ 50 ∧ l.q.length ≤ 30 ∧ Below w.heap.size w w' := by
  obtain ⟨W, hW⟩ : ∃ W, W = (w.alloc (.cells #[.slice none 0 0, .string ⟨#[]⟩, .int .i64 0] 26)).alloc (.cells #[v, .int .i64 0, .int .u64 0] 70) := ⟨_, rfl⟩
  have HC : Hid (Cu W (w.heap.size + 1) z 0) := Lib.hid (by
    rw [hW]
    have := cu_new (w.alloc (.cells #[.slice none 0 0, .string ⟨#[]⟩, .int .i64 0] 26)) v z (hrow.below ((Below.refl _ _).alloc (Nat.le_refl _) _) (Nat.le_refl _)) hz
    rw [World.size_alloc] at this
    exact this)
  have HW := Lib.hid hW
  obtain ⟨a0, cap0, rfl, _, _, _⟩ := row_open hrow
  clear hW hrow hz
  go_enter Try.func26, Try.ntmps26
  go_upto_region 2 with fail
  rw [← HW.out]
  go_wp2_with fail
  refine (link_any (w.heap.size + 1) 0 z W HC.out (by omega)).mono ?_
  rintro e w1 ⟨v1, l, rfl, ho, hf, hq, hc, hg⟩
  have HD := Lib.hid (DoK.start HW.out ho hf hq hc hg)
  obtain ⟨a1, c1, rfl, _, _⟩ := own_someS0 HD.out.own
  clear ho hc hg
  go_upto_region 3 with fail
  obtain ⟨W2, hW2⟩ : ∃ W2, W2 = w1.alloc (.cells #[.slice a1 l.q.length c1, .string l.f, .int .i64 l.u] 26) := ⟨_, rfl⟩
  have HX : Hid (DoX w W2 (w.heap.size + 1) z (0 + 300) w1.heap.size (.slice a1 l.q.length c1) l) := Lib.hid (by rw [hW2]; exact DoX.new HD.out)
  rw [← hW2]
  obtain ⟨X, hX⟩ : ∃ X, X = w1.heap.size := ⟨_, rfl⟩
  rw [← hX] at HX ⊢
  clear hW2 hX HD
  have HXd := Lib.hid HX.out.drew
  obtain ⟨x0, x1, x2⟩ := HXd.out.box.cells
  have hw1 : IntKind.i64.wrap ((l.q.length : Int) + 1) = (l.q.length : Int) + 1 := IntWalk.i64_in _ (by omega)
  have tokA : True := trivial
  have tokB : True := trivial
  go_region_law (first
    | (have _t := tokA; go_simp; go_at_call 69; refine (pickZ7_any (w.heap.size + 1) (0 + 300) ((l.q.length : Int) + 1) z _ HXd.out.d.cu (by omega) (by omega) (by omega)).mono ?_; rintro e w3 ⟨y, hy, rfl, hc, hg⟩; have HX2 := Lib.hid (HXd.out.call hc hg); obtain ⟨z0, z1, z2⟩ := HX2.out.box.cells; clear hc hg tokA _t; dsimp only)
    | (have _t := tokB; go_simp; go_at_call 69; refine (pick_any (w.heap.size + 1) (0 + 300 + 2) 12 z _ HX2.out.d.cu (by omega) (by omega) (by omega)).mono ?_; rintro e w4 ⟨y2, hy2, rfl, hc, hg⟩; have HX3 := Lib.hid (HX2.out.call hc hg); obtain ⟨u0, u1, u2⟩ := HX3.out.box.cells; obtain ⟨y0, y1, y3⟩ := HX3.out.d.res.cells; have f0 := HX3.out.d.res.free 0; have f1 := HX3.out.d.res.free 1; have f2 := HX3.out.d.res.free 2; obtain ⟨t0, t1, t2⟩ := (HX3.out.stored (v' := .slice a1 l.q.length c1) (f' := l.f) (u' := l.u)).cells; clear hc hg tokB _t; dsimp only))
  all_goals go_wp2_with fail
  all_goals
    obtain ⟨p1, o1, b1⟩ := HX3.out.d.out (v' := .slice a1 l.q.length c1) (f' := l.f) (u' := l.u)
    exact bodyPost_ret (results_lk1 rfl _ _ w.heap.size rfl rfl p1) rfl ⟨_, l, _, rfl, o1, hf, hq, b1⟩
end Go.Proofs.Ytbhhmaialilabaa
