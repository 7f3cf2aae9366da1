/-
  SplitString of the program.
-/
import Derived.Test.YtpmjdppipalfcaaDoorIter
namespace Go.Proofs.YtpmjdppipalfcaaDoor
open Go.RowKit Go.Shelf

attribute [local go_sem] Oper.semAt_some

theorem partsOf_in (n : Nat) (s : ByteArray) (c : Int) (w : World) :
    CallsIn Fence.wide n Tryd.prog 88 #[.string s, .int .u8 c] w fun e w' =>
      e = .returned (.func (.func 95) #[] #[.pointer (some ⟨w.heap.size, 0, none⟩), .pointer (some ⟨w.heap.size + 1, 0, none⟩)]) ∧ w' = (w.alloc (.cells #[.string s] 9)).alloc (.cells #[.int .u8 c] 5) := by
  refine callsIn_of_wp Tryd.func88 rfl trivial ?_ rfl
  simp only [Tryd.ntmps88, List.size_toArray, List.length_cons, List.length_nil, Nat.reduceAdd, Nat.reduceSub, Array.replicate_succ, Array.replicate_zero, List.push_toArray, List.append_toArray, List.nil_append, List.cons_append]
  gi_wp2
  go_ret
  exact ⟨rfl, rfl⟩

theorem parts_count (s : ByteArray) (c : UInt8) (hs : s.size ≤ 4000) : (partS c s).length ≤ 4001 := by
  have h := M.parts_len c s.data.toList
  have e : s.data.toList.length = s.size := by simp
  unfold partS
  rw [List.length_map]
  omega

/-- The iterator's contract, as the law on ranges over functions asks it. -/
theorem parts_stops (n : Nat) (hn : 1 ≤ n) (Bs Bc : Nat) (s : ByteArray) (c : UInt8) (hs : s.size ≤ 1048576) (w : World) (hBs : Boxed w Bs 9 (.string s)) (hBc : Boxed w Bc 5 (.int .u8 c.toNat)) :
    SeqStopsK Fence.wide n Tryd.prog 95 #[.pointer (some ⟨Bs, 0, none⟩), .pointer (some ⟨Bc, 0, none⟩)] (fun x : ByteArray => #[Value.string x]) (fun A B => ∀ v, Boxed A Bc 5 v → Boxed B Bc 5 v) (fun ys => ys = partS c s) (fun pre => pre <+: partS c s) (partS c s).length w :=
  fun l J Jx W hW hJ hJx hY h0 =>
    parts_iter n hn l Bs Bc s c hs J Jx W hJ hJx hY ((hW.cell (p := ⟨Bs, 0, none⟩) hBs.lt).trans hBs.cell) ((hW.block Bc hBc.lt).trans hBc) h0

set_option maxRecDepth 100000 in
set_option maxHeartbeats 2000000 in
theorem implSplit_in (n : Nat) (hn : 3 ≤ n) (s : ByteArray) (c : UInt8) (hs : s.size ≤ 4000) (w : World) :
    CallsIn Fence.wide n Tryd.prog 76 #[.string s, .string ⟨#[c]⟩] w fun e W' => ∃ v, e = .returned (.tuple #[v, .bool true]) ∧
      W'.ownsRow w.heap.size 9 1 v (partS c s).length ((partS c s).map Value.string) ∧ Below w.heap.size w W' := by
  have h1 : 1 ≤ n := by omega
  obtain ⟨i0, hi, hz0, hz1, hz2⟩ := info_parts infoStr4
  refine callsIn_of_wp_marks Tryd.func76 rfl trivial ?_ rfl
  simp only [Tryd.ntmps76, List.size_toArray, List.length_cons, List.length_nil, Nat.reduceAdd, Nat.reduceSub, Array.replicate_succ, Array.replicate_zero, List.push_toArray, List.append_toArray, List.nil_append, List.cons_append]
  have hd : decide ((4000 : Int) < (s.size : Int)) = false := by rw [decide_eq_false_iff_not]; omega
  have ff : Fence.wide.fn 88 := trivial
  gi_wp2_with (gi_at_call 88; refine (partsOf_in (n - 1) s c.toNat _).mono ?_; rintro e w' ⟨rfl, rfl⟩)
  have bO : Boxed (((w.alloc (.cells #[] 9)).alloc (.cells #[.slice (some ⟨w.heap.size, 0, none⟩) 0 0] 29))) (w.heap.size + 1) 29 (.slice (some ⟨w.heap.size, 0, none⟩) 0 0) := by
    have := Boxed.new (w.alloc (.cells #[] 9)) 29 (.slice (some ⟨w.heap.size, 0, none⟩) 0 0)
    rw [World.size_alloc] at this
    exact this
  have bS : Boxed ((((w.alloc (.cells #[] 9)).alloc (.cells #[.slice (some ⟨w.heap.size, 0, none⟩) 0 0] 29))).alloc (.cells #[.string s] 9)) (w.heap.size + 2) 9 (.string s) := by
    have := Boxed.new (((w.alloc (.cells #[] 9)).alloc (.cells #[.slice (some ⟨w.heap.size, 0, none⟩) 0 0] 29))) 9 (.string s)
    rw [World.size_alloc, World.size_alloc] at this
    exact this
  have bC : Boxed (((((w.alloc (.cells #[] 9)).alloc (.cells #[.slice (some ⟨w.heap.size, 0, none⟩) 0 0] 29))).alloc (.cells #[.string s] 9)).alloc (.cells #[.int .u8 c.toNat] 5)) (w.heap.size + 3) 5 (.int .u8 c.toNat) := by
    have := Boxed.new ((((w.alloc (.cells #[] 9)).alloc (.cells #[.slice (some ⟨w.heap.size, 0, none⟩) 0 0] 29))).alloc (.cells #[.string s] 9)) 5 (.int .u8 c.toNat)
    rw [World.size_alloc, World.size_alloc, World.size_alloc] at this
    exact this
  have bO' := (bO.alloc (.cells #[.string s] 9)).alloc (.cells #[.int .u8 c.toNat] 5)
  have bS' := bS.alloc (.cells #[.int .u8 c.toNat] 5)
  have hB0 : Below w.heap.size w (((((w.alloc (.cells #[] 9)).alloc (.cells #[.slice (some ⟨w.heap.size, 0, none⟩) 0 0] 29))).alloc (.cells #[.string s] 9)).alloc (.cells #[.int .u8 c.toNat] 5)) :=
    ((((Below.refl _ w).alloc (Nat.le_refl _) _).alloc (by simp) _).alloc (by simp; omega) _).alloc (by simp; omega) _
  have hown0 : (((((w.alloc (.cells #[] 9)).alloc (.cells #[.slice (some ⟨w.heap.size, 0, none⟩) 0 0] 29))).alloc (.cells #[.string s] 9)).alloc (.cells #[.int .u8 c.toNat] 5)).ownsRow w.heap.size 9 1 (.slice (some ⟨w.heap.size, 0, none⟩) 0 0) 0 [] :=
    (((World.ownsRow_made w #[] 0 (Nat.le_refl _) (Nat.zero_le _) rfl).alloc _).alloc _).alloc _
  refine wpIn_rangeFunc_ownG rfl h1 (gf := 95) (lb := #[.pointer (some ⟨w.heap.size + 2, 0, none⟩), .pointer (some ⟨w.heap.size + 3, 0, none⟩)]) (by simp [go_sem]) trivial (enters_of Tryd.func95 (by kernel_rfl) rfl)
    (Kp := fun A B => ∀ v, Boxed A (w.heap.size + 3) 5 v → Boxed B (w.heap.size + 3) 5 v)
    (parts_stops (n - 1) (by omega) (w.heap.size + 2) (w.heap.size + 3) s c (by omega) _ bS' bC) (fun h1 h2 v hv => h2 v (h1 v hv)) ?keep (Below.refl _ _) (fun _ => rfl)
    (fun pre W => ((∃ v, Boxed W (w.heap.size + 1) 29 v ∧ W.ownsRow w.heap.size 9 1 v pre.length (pre.map Value.string) ∧ True) ∧ Boxed W (w.heap.size + 3) 5 (.int .u8 c.toNat)) ∧ Below w.heap.size w W)
    (fun _ _ _ => False)
    ?hI (fun _ _ _ _ _ hs _ _ => hs) ⟨⟨⟨_, bO', hown0, trivial⟩, bC⟩, hB0⟩ ?a1 ?assign ?body ?done ?stop
  case keep =>
    intro W l o o' _ ho hc _ v hv
    refine hv.kept (grownBy_putObj' W l o') (fun e => ?_)
    cases e
    rw [show W.heap[w.heap.size + 3]? = _ from hv] at ho
    cases ho
    cases hc
  case hI =>
    exact OwnFrom.and (OwnFrom.and (Own.from (holdsRow_own w.heap.size (w.heap.size + 1) 29 9 1 (fun pre : List ByteArray => pre.length) (fun pre => pre.map Value.string) (fun _ _ => True)) _) (Own.from (boxed_own (w.heap.size + 3) 5 (fun _ => .int .u8 c.toNat)) _)) (ownFrom_below (Nat.le_refl _) (by simp; omega))
  case assign =>
    intro l x W K hK
    gi_wp2
    exact hK
  case body =>
    rintro l pre x W ⟨⟨⟨v, hv, hrow, _⟩, hbc⟩, hB⟩ hlt
    have hc := hv.cell
    have hpl := parts_count s c hs
    have hpre : pre.length < 4001 := by omega
    clear hpl hlt
    gi_wp2_with (gi_at_builtin; refine wpListIn_append_own _ rfl _ _ 29 rfl w.heap.size 9 i0 (.string ⟨#[]⟩) 1 16 Tryd.underlying29 hi hz0 hz1 hz2 rfl (by decide) _ _ _ rfl (hrow.alloc _) ⟨W.heap.size, 0, none⟩ 1 1 [.string x] rfl rfl (cell_one_new _ _ _) (by simp [Value.oneCell']) (by unfold maxLen; omega) (by omega) (by have := hB.size; simp; omega) ?_; intro v' w1 hown' hgrow _; obtain ⟨g', cap', rfl⟩ := ownsRow_succ hown'; obtain ⟨hv1, hv2, hr2, hk2, hb2⟩ := hv.appended (by decide) hrow hB.size (by omega) hown' hgrow; have hc1 := hv1.cell; have hf1 := hv1.frozen)
    have hbc1 : Boxed w1 (w.heap.size + 3) 5 (.int .u8 c.toNat) := (hbc.alloc _).kept hgrow (hbc.not_row (by decide) hrow)
    have hbc2 := hbc1.other (B' := w.heap.size + 1) (by omega) (.slice (some ⟨g', 0, none⟩) (pre.length + 1) cap')
    exact ⟨hk2.from _, fun u hu => by
      have : u = .int .u8 c.toNat := by
        have e := (show W.heap[w.heap.size + 3]? = _ from hu).symm.trans (show W.heap[w.heap.size + 3]? = _ from hbc)
        injection e with e; injection e with e; injection e with e; injection e
      subst this; exact hbc2, ⟨⟨_, hv2, by simpa using hr2, trivial⟩, hbc2⟩, hB.trans hb2⟩
  case done =>
    rintro D ys W hD rfl ⟨⟨⟨v, hv, hrow, _⟩, hbc⟩, hB⟩ hK
    have hc := hv.cell
    gi_wp2
    refine ⟨by simp, .inl ⟨_, _, rfl, run_takeDeferred hK, ?_⟩⟩
    exact ⟨_, results_tmp2 rfl _ _ _, v, rfl, ownsRow_putObj hrow _ hK rfl, hB.trans (belowK_b (w := w) (Nat.le_refl _) W D _ _ (by simp at hD; omega) hK rfl rfl)⟩
  case stop =>
    rintro D c pre W _ _ h _
    exact h.elim

/-- What SplitString returns: whether it can split, and the parts. -/
noncomputable def splitOk (s sep : ByteArray) : Bool := open Classical in decide (s.size ≤ 4000 ∧ sep.size = 1)
noncomputable def splitPs (s sep : ByteArray) : List ByteArray := if splitOk s sep = true then partS (sep.data.toList.headD 0) s else []

theorem splitOk_yes {s : ByteArray} {c : UInt8} (h : s.size ≤ 4000) : splitOk s ⟨#[c]⟩ = true ∧ splitPs s ⟨#[c]⟩ = partS c s := by
  have e : splitOk s ⟨#[c]⟩ = true := by unfold splitOk; exact decide_eq_true ⟨h, rfl⟩
  exact ⟨e, by unfold splitPs; rw [if_pos e]; rfl⟩
theorem splitOk_no {s sep : ByteArray} (h : ¬ (s.size ≤ 4000 ∧ sep.size = 1)) : splitOk s sep = false ∧ splitPs s sep = [] := by
  have e : splitOk s sep = false := by unfold splitOk; exact decide_eq_false h
  exact ⟨e, by unfold splitPs; rw [e]; rfl⟩
theorem one_byte' (s : ByteArray) (h : s.size = 1) : ∃ c, s = ⟨#[c]⟩ := by
  obtain ⟨⟨l⟩⟩ := s
  match l, h with
  | [c], _ => exact ⟨c, rfl⟩

theorem implSplit_any (s sep : ByteArray) (h1 : s.size ≤ 1048576) (h2 : sep.size ≤ 1048576) (w : World) :
    Calls Tryd.prog 76 #[.string s, .string sep] w fun e W' => ∃ v, e = .returned (.tuple #[v, .bool (splitOk s sep)]) ∧
      W'.ownsRow w.heap.size 9 1 v (splitPs s sep).length ((splitPs s sep).map Value.string) ∧ Below w.heap.size w W' := by
  by_cases hc : s.size ≤ 4000 ∧ sep.size = 1
  · obtain ⟨c, rfl⟩ := one_byte' sep hc.2
    obtain ⟨e1, e2⟩ := splitOk_yes (c := c) hc.1
    rw [e1, e2]
    exact callsIn_wide.1 (implSplit_in 3 (by omega) s c hc.1 w)
  · obtain ⟨e1, e2⟩ := splitOk_no hc
    rw [e1, e2]
    by_cases h4 : s.size ≤ 4000
    · have h5 : ((sep.size : Int) == 1) = false := by simp; omega
      have h5' : ((sep.size : Int) != 1) = true := by simp; omega
      have hd4 : decide ((4000 : Int) < (s.size : Int)) = false := by rw [decide_eq_false_iff_not]; omega
      clear hc
      go_enter Tryd.func76, Tryd.ntmps76
      go_wp2_with fail
      go_ret2
      exact ⟨_, rfl, World.ownsRow_made w #[] 0 (Nat.le_refl _) (Nat.zero_le _) rfl, (Below.refl _ _).alloc (Nat.le_refl _) _⟩
    · clear hc
      go_enter Tryd.func76, Tryd.ntmps76
      go_wp2_with fail
      go_ret2
      exact ⟨_, rfl, World.ownsRow_made w #[] 0 (Nat.le_refl _) (Nat.zero_le _) rfl, (Below.refl _ _).alloc (Nat.le_refl _) _⟩
end Go.Proofs.YtpmjdppipalfcaaDoor
