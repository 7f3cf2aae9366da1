/-
  slices.Repeat of a slice of one text, at most twice; bits.Mul at small numbers.
-/
import Derived.Test.YtbhhmaialilabaaSlS
import Derived.Laws.CopyOwn
import Derived.Deep.RegionLaw
namespace Go.Proofs.Ytbhhmaialilabaa
open Go.RowKit Go.Lib Go.Joins
set_option linter.unusedVariables false

set_option maxRecDepth 100000 in
set_option maxHeartbeats 1000000 in
theorem mul64_0 (w : World) :
    Calls Try.prog 87 #[.int .u64 1, .int .u64 0] w fun e w' => e = .returned (.tuple #[.int .u64 0, .int .u64 0]) ∧ w = w' := by
  go_enter Try.func87, Try.ntmps87
  go_wp2_with fail
  go_ret2
  exact ⟨rfl, rfl⟩
set_option maxRecDepth 100000 in
theorem mul_0 (w : World) :
    Calls Try.prog 84 #[.int .u64 1, .int .u64 0] w fun e w' => e = .returned (.tuple #[.int .u64 0, .int .u64 0]) ∧ w = w' := by
  have HM := Lib.hid (mul64_0 w)
  go_enter Try.func84, Try.ntmps84
  go_wp2_with fail
  refine HM.out.mono ?_
  rintro e w2 ⟨rfl, rfl⟩
  go_wp2_with fail
  go_ret2
  exact ⟨rfl, rfl⟩
theorem make0S (W : World) : (Instr.makeSlice 24 (.int .i64 0) (.int .i64 0)).run Try.prog W = .ok (.slice (some ⟨W.heap.size, 0, none⟩) 0 0) (W.alloc (.cells #[] 9)) :=
  make_strs 0 [] rfl (by omega) W
set_option maxRecDepth 100000 in
set_option maxHeartbeats 1000000 in
theorem mul64_1 (w : World) :
    Calls Try.prog 87 #[.int .u64 1, .int .u64 1] w fun e w' => e = .returned (.tuple #[.int .u64 0, .int .u64 1]) ∧ w = w' := by
  go_enter Try.func87, Try.ntmps87
  go_wp2_with fail
  go_ret2
  exact ⟨rfl, rfl⟩
set_option maxRecDepth 100000 in
theorem mul_1 (w : World) :
    Calls Try.prog 84 #[.int .u64 1, .int .u64 1] w fun e w' => e = .returned (.tuple #[.int .u64 0, .int .u64 1]) ∧ w = w' := by
  have HM := Lib.hid (mul64_1 w)
  go_enter Try.func84, Try.ntmps84
  go_wp2_with fail
  refine HM.out.mono ?_
  rintro e w2 ⟨rfl, rfl⟩
  go_wp2_with fail
  go_ret2
  exact ⟨rfl, rfl⟩
theorem make1S (W : World) : (Instr.makeSlice 24 (.int .i64 1) (.int .i64 1)).run Try.prog W = .ok (.slice (some ⟨W.heap.size, 0, none⟩) 1 1) (W.alloc (.cells #[.string ⟨#[]⟩] 9)) :=
  make_strs 1 [⟨#[]⟩] rfl (by omega) W
set_option maxRecDepth 100000 in
set_option maxHeartbeats 1000000 in
theorem mul64_2 (w : World) :
    Calls Try.prog 87 #[.int .u64 1, .int .u64 2] w fun e w' => e = .returned (.tuple #[.int .u64 0, .int .u64 2]) ∧ w = w' := by
  go_enter Try.func87, Try.ntmps87
  go_wp2_with fail
  go_ret2
  exact ⟨rfl, rfl⟩
set_option maxRecDepth 100000 in
theorem mul_2 (w : World) :
    Calls Try.prog 84 #[.int .u64 1, .int .u64 2] w fun e w' => e = .returned (.tuple #[.int .u64 0, .int .u64 2]) ∧ w = w' := by
  have HM := Lib.hid (mul64_2 w)
  go_enter Try.func84, Try.ntmps84
  go_wp2_with fail
  refine HM.out.mono ?_
  rintro e w2 ⟨rfl, rfl⟩
  go_wp2_with fail
  go_ret2
  exact ⟨rfl, rfl⟩
theorem make2S (W : World) : (Instr.makeSlice 24 (.int .i64 2) (.int .i64 2)).run Try.prog W = .ok (.slice (some ⟨W.heap.size, 0, none⟩) 2 2) (W.alloc (.cells #[.string ⟨#[]⟩, .string ⟨#[]⟩] 9)) :=
  make_strs 2 [⟨#[]⟩, ⟨#[]⟩] rfl (by omega) W
theorem infoStr1 : (Try.prog.info? 9).map (·.size) = some 1 := by kernel_rfl
/-- A whole block is a row of the call's own. -/
theorem own_block {w : World} {B g n : Nat} {t : TypeId} {xs : List Value} (h : w.heap[g]? = some (.cells xs.toArray t (0, 0))) (hB : B ≤ g) (hn : n = xs.length) (hm : n ≤ maxLen) : w.ownsRow B t 1 (.slice (some ⟨g, 0, none⟩) n n) n xs := by
  subst hn
  exact ⟨by omega, .inr ⟨g, xs.length, xs.toArray, rfl, hB, h, Nat.le_refl _, hm, by simp, by simp⟩⟩
theorem cell_of_lit {w w' : World} {g : Nat} {t : TypeId} {x : Value} (hg : w.heap[g]? = some (.cells #[x] t (0, 0))) (hb : Below w.heap.size w w') : ∀ (j : Nat) (v : Value), [x][j]? = some v → w'.cell? ((⟨g, 0, none⟩ : Addr).add j) = some v := by
  intro j v hj
  have hgl : g < w.heap.size := (Array.getElem?_eq_some_iff.1 hg).1
  have h' := (hb.block g hgl).trans hg
  match j, hj with
  | 0, hj =>
    injection hj with hj
    subst hj
    rw [addr_add]
    simp [World.cell?, h']
  | j + 1, hj => simp at hj
set_option maxRecDepth 100000 in
set_option maxHeartbeats 4000000 in
theorem repeat0_any (s : ByteArray) (g : Nat) (w : World) (hg : w.heap[g]? = some (.cells #[.string s] 9 (0, 0))) :
    Calls Try.prog 79 #[.slice (some ⟨g, 0, none⟩) 1 1, .int .i64 0] w fun e w' => ∃ v', e = .returned v' ∧ w'.ownsRow w.heap.size 9 1 v' 0 [] ∧ Below w.heap.size w w' := by
  have HC := Lib.hid (fun (w' : World) (hb : Below w.heap.size w w') => cell_of_lit hg hb)
  clear hg
  have HMul := Lib.hid (fun W1 => mul_0 W1)
  have hmk := make0S
  go_enter Try.func79, Try.ntmps79
  go_wp2_with fail
  refine (HMul.out _).mono ?_
  rintro e w2 ⟨rfl, rfl⟩
  go_wp2_with ((with_reducible show wpList _ _ _ _ _ _); refine wpList_copy_splice (o := ⟨some 33, _, _, _, _, _⟩) rfl (.tmp 31) (.tmp 32) 24 24 rfl 9 Try.underlying24 infoStr1 _ _ _ _ _ _ rfl rfl w.heap.size 0 [] 9 (heap_alloc_new w _) [] rfl (fun h => absurd h (by simp)) (by simp) (by intro u hu; cases hu) w.heap.size w ((Below.refl _ _).alloc (Nat.le_refl _) _) (Nat.le_refl _) ?_; intro w3 HG3 hb3)
  clear hmk
  have HB3 := Lib.hid hb3
  clear hb3
  refine wp_loop_rounds 1 ?_
  rw [rounds_succ]
  go_wp2_with fail
  go_ret
  exact ⟨_, rfl, own_block HG3.out (Nat.le_refl _) rfl (by unfold maxLen; omega), HB3.out⟩
set_option maxRecDepth 100000 in
set_option maxHeartbeats 4000000 in
theorem repeat1_any (s : ByteArray) (g : Nat) (w : World) (hg : w.heap[g]? = some (.cells #[.string s] 9 (0, 0))) :
    Calls Try.prog 79 #[.slice (some ⟨g, 0, none⟩) 1 1, .int .i64 1] w fun e w' => ∃ v', e = .returned v' ∧ w'.ownsRow w.heap.size 9 1 v' 1 [.string s] ∧ Below w.heap.size w w' := by
  have HC := Lib.hid (fun (w' : World) (hb : Below w.heap.size w w') => cell_of_lit hg hb)
  clear hg
  have HMul := Lib.hid (fun W1 => mul_1 W1)
  have hmk := make1S
  go_enter Try.func79, Try.ntmps79
  go_wp2_with fail
  refine (HMul.out _).mono ?_
  rintro e w2 ⟨rfl, rfl⟩
  go_wp2_with ((with_reducible show wpList _ _ _ _ _ _); refine wpList_copy_splice (o := ⟨some 33, _, _, _, _, _⟩) rfl (.tmp 31) (.tmp 32) 24 24 rfl 9 Try.underlying24 infoStr1 _ _ _ _ _ _ rfl rfl w.heap.size 0 [.string ⟨#[]⟩] 9 (heap_alloc_new w _) [.string s] rfl (fun _ => ⟨rfl, ⟨g, 0, none⟩, rfl, HC.out _ ((Below.refl _ _).alloc (Nat.le_refl _) _)⟩) (by simp) (by intro u hu; simp at hu; subst hu; rfl) w.heap.size w ((Below.refl _ _).alloc (Nat.le_refl _) _) (Nat.le_refl _) ?_; intro w3 HG3 hb3)
  clear hmk
  have HB3 := Lib.hid hb3
  clear hb3
  refine wp_loop_rounds 1 ?_
  rw [rounds_succ]
  go_wp2_with fail
  go_ret
  exact ⟨_, rfl, own_block HG3.out (Nat.le_refl _) rfl (by unfold maxLen; omega), HB3.out⟩
set_option maxRecDepth 100000 in
set_option maxHeartbeats 4000000 in
theorem repeat2_any (s : ByteArray) (g : Nat) (w : World) (hg : w.heap[g]? = some (.cells #[.string s] 9 (0, 0))) :
    Calls Try.prog 79 #[.slice (some ⟨g, 0, none⟩) 1 1, .int .i64 2] w fun e w' => ∃ v', e = .returned v' ∧ w'.ownsRow w.heap.size 9 1 v' 2 [.string s, .string s] ∧ Below w.heap.size w w' := by
  have HC := Lib.hid (fun (w' : World) (hb : Below w.heap.size w w') => cell_of_lit hg hb)
  clear hg
  have HMul := Lib.hid (fun W1 => mul_2 W1)
  have hmk := make2S
  go_enter Try.func79, Try.ntmps79
  go_wp2_with fail
  refine (HMul.out _).mono ?_
  rintro e w2 ⟨rfl, rfl⟩
  go_wp2_with ((with_reducible show wpList _ _ _ _ _ _); refine wpList_copy_splice (o := ⟨some 33, _, _, _, _, _⟩) rfl (.tmp 31) (.tmp 32) 24 24 rfl 9 Try.underlying24 infoStr1 _ _ _ _ _ _ rfl rfl w.heap.size 0 [.string ⟨#[]⟩, .string ⟨#[]⟩] 9 (heap_alloc_new w _) [.string s] rfl (fun _ => ⟨rfl, ⟨g, 0, none⟩, rfl, HC.out _ ((Below.refl _ _).alloc (Nat.le_refl _) _)⟩) (by simp) (by intro u hu; simp at hu; subst hu; rfl) w.heap.size w ((Below.refl _ _).alloc (Nat.le_refl _) _) (Nat.le_refl _) ?_; intro w3 HG3 hb3)
  clear hmk
  have HB3 := Lib.hid hb3
  clear hb3
  refine wp_loop_rounds 2 ?_
  rw [rounds_succ]
  go_wp2_with fail
  have HC5 := Lib.hid (fun (w' : World) (h : w'.heap[w.heap.size]? = some (.cells (splice [.string ⟨#[]⟩, .string ⟨#[]⟩] 0 [.string s] : List Value).toArray 9 (0, 0))) (j : Nat) (v : Value) (hj : [Value.string s][j]? = some v) => (show w'.cell? ((⟨w.heap.size, 0, none⟩ : Addr).add j) = some v from by
    match j, hj with
    | 0, hj =>
      injection hj with hj
      subst hj
      rw [addr_add]
      simp [World.cell?, h, splice]
    | j + 1, hj => simp at hj))
  go_region_held3 (fun w' => Below w.heap.size w w')
    ((repeat (first | exact HB3.out | assumption | refine Below.drew ?_)))
    ((refine step_copy_splice rfl (.tmp 41) (.tmp 44) 24 24 rfl 9 Try.underlying24 infoStr1 _ _ _ _ _ _ rfl rfl w.heap.size 1 (splice [.string ⟨#[]⟩, .string ⟨#[]⟩] 0 [.string s]) 9 HG3.out [.string s] rfl (fun _ => ⟨rfl, ⟨w.heap.size, 0, none⟩, rfl, HC5.out _ HG3.out⟩) (by simp [splice]) (by intro u hu; simp at hu; subst hu; rfl) w.heap.size w (by repeat (first | exact HB3.out | refine Below.drew ?_)) (Nat.le_refl _) ?_; intro w4 HG4 hb4))
  all_goals go_wp2_with fail
  all_goals rw [rounds_succ]
  all_goals go_wp2_with fail
  all_goals go_ret
  all_goals exact ⟨_, rfl, own_block HG4.out (Nat.le_refl _) rfl (by unfold maxLen; omega), by (first | exact hb4 | exact hb4.drew)⟩
end Go.Proofs.Ytbhhmaialilabaa
