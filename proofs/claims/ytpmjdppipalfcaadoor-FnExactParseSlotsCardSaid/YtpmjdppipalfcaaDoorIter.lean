/-
  The iterator 'partsOf' of the program: the rounds it makes.
-/
import Derived.RangeFuncNested
import Derived.RangeFuncBox
import Derived.RangeFuncLeaves
import Derived.Shelf.Abstract
import Derived.WalkKit
import Derived.OwnWalkIn
import Derived.TacticsInMore
import Derived.LoopNIn
import Derived.LoopIn
import Derived.Maps.AppendAt
import Derived.Test.YtpmjdppipalfcaaDoorSplit
import Derived.Sort.QuietIn
import Derived.Sort.LoopGhostIn
namespace Go.Proofs.YtpmjdppipalfcaaDoor
open Go.RowKit Go.Shelf

attribute [local go_sem] Oper.semAt_some

/-- The parts as texts. -/
def partS (c : UInt8) (s : ByteArray) : List ByteArray := (M.parts c s.data.toList).map fun l => ⟨l.toArray⟩
def doneS (s : ByteArray) (c : UInt8) (k : Nat) : List ByteArray := (done s c k).map fun l => ⟨l.toArray⟩

def strSz : Value → Nat | .string b => b.size | _ => 0

theorem ext_drop (s : ByteArray) (a b : Nat) : (s.extract a b).data.toList = (s.data.toList.take b).drop a := by
  simp [ByteArray.data_extract, List.drop_take]
theorem rest_size (s : ByteArray) (f : Nat) : (s.extract f s.size).size = s.size - f := by simp
theorem rest_cut (s : ByteArray) (f j : Nat) : (s.extract f s.size).extract 0 j = s.extract f (f + j) := by
  apply ByteArray.ext
  apply Array.toList_inj.1
  rw [ext_drop, ext_drop, ext_drop, M.take_all, List.drop_zero, List.take_drop]
theorem rest_tail (s : ByteArray) (f j n : Nat) (hn : n = (s.extract f s.size).size) : (s.extract f s.size).extract j n = s.extract (f + j) s.size := by
  subst hn
  apply ByteArray.ext
  apply Array.toList_inj.1
  have e : (s.extract f s.size).data.toList.take (s.extract f s.size).size = (s.extract f s.size).data.toList := List.take_of_length_le (by simp)
  rw [ext_drop, e, ext_drop, ext_drop, M.take_all, List.drop_drop]
theorem rest_at (s : ByteArray) (f j : Nat) (h1 : j < (s.extract f s.size).size) (h2 : f + j < s.size) : (s.extract f s.size)[j] = s[f + j] := by
  have e1 : (s.extract f s.size)[j] = (s.extract f s.size).data.toList[j]'(by simpa using h1) := rfl
  have e2 : s[f + j] = s.data.toList[f + j]'(by simpa using h2) := rfl
  rw [e1, e2]
  simp only [ext_drop, M.take_all, List.getElem_drop]

theorem doneS_hit {s : ByteArray} {c : UInt8} {k f : Nat} (h : done s c (k + 1) = done s c k ++ [(s.extract f k).data.toList]) : doneS s c (k + 1) = doneS s c k ++ [s.extract f k] := by
  unfold doneS
  rw [h, List.map_append, List.map_singleton]
theorem partS_end {s : ByteArray} {c : UInt8} {f : Nat} (h : Cur s s.size f c) : partS c s = doneS s c s.size ++ [s.extract f s.size] := by
  unfold partS doneS
  rw [cur_end h, List.map_append, List.map_singleton]
theorem foldl_pre (c : UInt8) : ∀ (r : List UInt8) (st : List (List UInt8) × List UInt8), st.1 <+: (r.foldl (M.spStep c) st).1
  | [], st => List.prefix_refl _
  | x :: r, st => by
    rw [List.foldl_cons]
    refine List.IsPrefix.trans ?_ (foldl_pre c r _)
    unfold M.spStep
    split
    · exact List.prefix_append _ _
    · exact List.prefix_refl _
theorem done_pre (s : ByteArray) (c : UInt8) (k : Nat) : doneS s c k <+: partS c s := by
  have h1 : done s c k <+: M.parts c s.data.toList := by
    have h2 : done s c k <+: (M.sp c s.data.toList).1 := by
      unfold done M.sp
      conv => rhs; rw [← List.take_append_drop k s.data.toList, List.foldl_append]
      exact foldl_pre c _ _
    exact h2.trans (List.prefix_append _ _)
  exact h1.map _
theorem doneS_lt (s : ByteArray) (c : UInt8) (k : Nat) : (doneS s c k).length < (partS c s).length := by
  have h2 : (done s c k).length ≤ (M.sp c s.data.toList).1.length := by
    have : done s c k <+: (M.sp c s.data.toList).1 := by
      unfold done M.sp
      conv => rhs; rw [← List.take_append_drop k s.data.toList, List.foldl_append]
      exact foldl_pre c _ _
    exact this.length_le
  unfold doneS partS M.parts
  rw [List.length_map, List.length_map, List.length_append, List.length_singleton]
  omega

theorem hit_facts {s r : ByteArray} {c : UInt8} {f j : Nat} (hr : r = s.extract f s.size) (hf : f ≤ s.size) (h : Cur s (f + j) f c ∧ done s c (f + j) = done s c f) (hlt : j < r.size) (hc : ((r[j].toNat : Int) == (c.toNat : Int)) = true) :
    Cur s (f + j + 1) (f + j + 1) c ∧ doneS s c (f + j + 1) = doneS s c f ++ [r.extract 0 j] ∧ r.extract (j + 1) r.size = s.extract (f + j + 1) s.size ∧ f + j + 1 ≤ s.size := by
  subst hr
  have hk : f + j < s.size := by rw [rest_size] at hlt; omega
  have e := rest_at s f j hlt hk
  rw [e] at hc
  obtain ⟨h1, h2⟩ := cur_hit h.1 hk hc
  refine ⟨h1, ?_, ?_, hk⟩
  · rw [doneS_hit h2, rest_cut]
    unfold doneS
    rw [h.2]
  · rw [rest_tail s f (j + 1) _ rfl]; rfl
theorem miss_facts {s r : ByteArray} {c : UInt8} {f j : Nat} (hr : r = s.extract f s.size) (h : Cur s (f + j) f c ∧ done s c (f + j) = done s c f) (hlt : j < r.size) (hc : ((r[j].toNat : Int) == (c.toNat : Int)) = false) :
    Cur s (f + (j + 1)) f c ∧ done s c (f + (j + 1)) = done s c f := by
  subst hr
  have hk : f + j < s.size := by rw [rest_size] at hlt; omega
  have e := rest_at s f j hlt hk
  rw [e] at hc
  obtain ⟨h1, h2⟩ := cur_miss h.1 hk hc
  exact ⟨h1, h2.trans h.2⟩
theorem end_facts {s r : ByteArray} {c : UInt8} {f j : Nat} (hr : r = s.extract f s.size) (hf : f ≤ s.size) (h : Cur s (f + j) f c ∧ done s c (f + j) = done s c f) (hj : j = r.size) : partS c s = doneS s c f ++ [r] := by
  subst hr
  have e : f + j = s.size := by rw [hj, rest_size]; omega
  rw [e] at h
  rw [partS_end h.1]
  unfold doneS
  rw [h.2]

theorem grown_drew (w : World) (n : Nat) : w.grownBy (w.drewN n) none := ⟨rfl, rfl, rfl, Nat.le_refl _, fun _ _ _ => rfl⟩
theorem boxed_drew {W : World} {B : Nat} {t : TypeId} {v : Value} (h : Boxed W B t v) (n : Nat) : Boxed (W.drewN n) B t v := h

set_option maxRecDepth 100000 in
set_option maxHeartbeats 1000000 in
theorem parts_iter (n : Nat) (hn : 1 ≤ n) (l Bs Bc : Nat) (s : ByteArray) (c : UInt8) (hs : s.size ≤ 1048576) (J Jx : List ByteArray → World → Prop) (W : World)
    (hJ : AbidesFrom W.heap.size J) (_hJx : AbidesFrom W.heap.size Jx)
    (hY : ∀ pre x W1, J pre W1 → pre.length < (partS c s).length → YieldAt Fence.wide (n - 1) Tryd.prog l #[.string x] W1 fun e W' =>
      (e = .returned (.bool true) ∧ J (pre ++ [x]) W' ∧ (∀ v, Boxed W1 Bc 5 v → Boxed W' Bc 5 v)) ∨ (e = .returned (.bool false) ∧ Jx (pre ++ [x]) W'))
    (hBs : W.cell? ⟨Bs, 0, none⟩ = some (.string s)) (hBc : Boxed W Bc 5 (.int .u8 c.toNat)) (h0 : J [] W) :
    CallsIn Fence.wide n Tryd.prog 95 #[.func (.yield l) #[] #[], .pointer (some ⟨Bs, 0, none⟩), .pointer (some ⟨Bc, 0, none⟩)] W fun e W' => (∃ v, e = .returned v) ∧
      ((∃ ys, ys = partS c s ∧ J ys W') ∨ (∃ pre, pre <+: partS c s ∧ Jx pre W')) := by
  refine callsIn_of_wp Tryd.func95 rfl trivial ?_ rfl
  simp only [Tryd.ntmps95, List.size_toArray, List.length_cons, List.length_nil, Nat.reduceAdd, Nat.reduceSub, Array.replicate_succ, Array.replicate_zero, List.push_toArray, List.append_toArray, List.nil_append, List.cons_append]
  refine wpIn_wide.2 ?_
  go_wp2
  go_step3
  go_wp2
  go_step3
  go_wp2
  refine (wpIn_wide (n := n)).1 ?_
  gi_loopg [4] (s.size + 1) (fun k r wr => ∃ f : Nat, f ≤ s.size ∧ s.size - f < k ∧ r = .string (s.extract f s.size) ∧ Hid (Cur s f f c) ∧ J (doneS s c f) wr ∧ Boxed wr Bc 5 (.int .u8 c.toNat))
  case atStart => exact ⟨0, Nat.zero_le _, by omega, by simp, Lib.hid (cur_zero s c), by have := done_zero s c; unfold doneS; rw [this]; exact h0, hBc⟩
  case round =>
    obtain ⟨f, hf, hgk, rfl, HC, hj, hb⟩ := hrel
    obtain ⟨r, hr⟩ : ∃ r, r = s.extract f s.size := ⟨_, rfl⟩
    rw [← hr]
    have hrs : r.size = s.size - f := by rw [hr, rest_size]
    have hrb : r.size ≤ 1048576 := by omega
    have HR := Lib.hid hr
    have HZ := Lib.hid hrs
    clear hr hrs
    gi_wp2
    gi_loopg [4, 9] (r.size + 1) (fun k2 z i wr1 => ∃ j : Nat, j ≤ r.size ∧ r.size - j < k2 ∧ z = .string r ∧ i = .int .i64 j ∧ Hid (Cur s (f + j) f c ∧ done s c (f + j) = done s c f) ∧ J (doneS s c f) wr1 ∧ Boxed wr1 Bc 5 (.int .u8 c.toNat))
    case atStart => exact ⟨0, Nat.zero_le _, by omega, rfl, rfl, Lib.hid ⟨HC.out, rfl⟩, hj, hb⟩
    case round =>
      obtain ⟨j, hjr, hgk2, rfl, rfl, HD, hj1, hb1⟩ := hrel
      have hbc := hb1.cell
      by_cases hlt : j < r.size
      · by_cases hc : ((r[j].toNat : Int) == (c.toNat : Int)) = true
        · gi_wp2
          gi_quiet (fail)
          have hjd := hJ _ _ _ none hj1 (grown_drew wr nq) (by simp)
          have hbd := boxed_drew hb1 nq
          obtain ⟨fn, tmps, assign, body, hy, hR⟩ := hY (doneS s c f) (r.extract 0 j) (wr.drewN nq) hjd (doneS_lt s c f)
          gi_wp2
          refine hR.mono ?_
          rintro e W3 (⟨rfl, hJ3, hk3⟩ | ⟨rfl, hJx3⟩)
          · gi_wp2
            gi_roundg (s.size - (f + j + 1) + 1)
            case measure => have := (hit_facts HR.out hf HD.out hlt hc).2.2.2; omega
            case rel =>
              obtain ⟨q1, q2, q3, q4⟩ := hit_facts HR.out hf HD.out hlt hc
              exact ⟨f + j + 1, q4, by omega, by rw [q3], Lib.hid q1, by rw [q2]; exact hJ3, hk3 _ hbd⟩
          · gi_wp2
            try rw [Exit.noGoto_ret]
            refine bodyPost_ret (results_none rfl _ _ _) rfl ?_
            refine ⟨⟨_, rfl⟩, .inr ⟨_, ?_, hJx3⟩⟩
            rw [← (hit_facts HR.out hf HD.out hlt hc).2.1]
            exact done_pre s c _
        · have hc' : ((r[j].toNat : Int) == (c.toNat : Int)) = false := by simpa using hc
          clear hc
          gi_wp2
          gi_quiet (fail)
          have hjd := hJ _ _ _ none hj1 (grown_drew wr nq) (by simp)
          have hbd := boxed_drew hb1 nq
          gi_wp2
          gi_roundg (r.size - (j + 1) + 1)
          case measure => omega
          case rel => exact ⟨j + 1, by omega, by omega, rfl, by go_num, Lib.hid (miss_facts HR.out HD.out hlt hc'), hjd, hbd⟩
      · obtain rfl : j = r.size := by omega
        have hE := end_facts HR.out hf HD.out rfl
        have HE := Lib.hid hE
        clear hE
        obtain ⟨fn, tmps, assign, body, hy, hR⟩ := hY (doneS s c f) r wr hj1 (doneS_lt s c f)
        gi_wp2
        refine hR.mono ?_
        rintro e W3 (⟨rfl, hJ3, hk3⟩ | ⟨rfl, hJx3⟩)
        · gi_wp2
          try rw [Exit.noGoto_ret]
          refine bodyPost_ret (results_none rfl _ _ _) rfl ?_
          exact ⟨⟨_, rfl⟩, .inl ⟨_, HE.out.symm, hJ3⟩⟩
        · gi_wp2
          try rw [Exit.noGoto_ret]
          refine bodyPost_ret (results_none rfl _ _ _) rfl ?_
          exact ⟨⟨_, rfl⟩, .inr ⟨_, by rw [HE.out]; exact List.prefix_refl _, hJx3⟩⟩
end Go.Proofs.YtpmjdppipalfcaaDoor
