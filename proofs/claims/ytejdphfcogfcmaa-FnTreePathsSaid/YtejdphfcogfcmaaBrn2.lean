/-
  Branches: the iterator over the nodes of a branch.
-/
import Derived.Test.YtejdphfcogfcmaaBrn1
import Derived.Test.YtejdphfcogfcmaaSeqA
import Derived.Sort.CutIn
namespace Go.Proofs.Ytejdphfcogfcmaa
open Go.RowKit Go.Shelf
set_option linter.unusedVariables false

attribute [local go_sem] Oper.semAt_some

/-- The types whose cells the iterator reads between two rounds. -/
def brT : TypeId → Prop := fun t => t = 60 ∨ t = 72
/-- The cells of these types lie as they lay. -/
def Tk (W W' : World) : Prop := ∀ (k : Nat) (cs : Array Value) (ty : TypeId) (fz : Nat × Nat), W.heap[k]? = some (Obj.cells cs ty fz) → brT ty → W'.heap[k]? = some (Obj.cells cs ty fz)
theorem Tk.trans {A B C : World} (h : Tk A B) (k : Tk B C) : Tk A C := fun q cs ty fz h1 h2 => k q cs ty fz (h q cs ty fz h1 h2) h2
theorem Tk.below {A B : World} (h : Below A.heap.size A B) : Tk A B := fun q cs ty fz h1 _ => (h.block q (Array.getElem?_eq_some_iff.1 h1).1).trans h1
theorem Tk.keep {n₀ b : Nat} {A B : World} (h : KeepL brT n₀ b A B) : Tk A B := fun q cs ty fz h1 h2 => h.same q _ h1 (.inr ⟨cs, ty, fz, rfl, h2⟩)
theorem Tk.own {β : Type} (B0 : Nat) (W0 : World) : OwnFrom B0 (fun (_ : β) W => Tk W0 W) := fun s A B row hs hg hr q cs ty fz h1 h2 => by
  have h3 := hs q cs ty fz h1 h2
  refine (hg.block q (Array.getElem?_eq_some_iff.1 h3).1 (fun e => ?_)).trans h3
  obtain ⟨_, o, ho, hc⟩ := hr q e.symm
  rw [h3] at ho; cases ho; cases hc
theorem BrS.tk {p : List Int} {W W' : World} {D : Nat → Prop} {f : Nat} {n : Int} {s : Value} (h : BrS p W D f n s) (hk : Tk W W') : BrS p W' D f n s :=
  h.kept (fun _ q => q) (fun k cur fz _ h1 => (hk k cur _ fz h1 (.inl rfl)).trans h1.symm)
/-- The marks for the deferred calls of the loops that are over: none holds a call. -/
def mkD (D : Nat) : Deferred := { target := .collected D, args := #[] }
structure Mks (B : Nat) (W : World) (Ds : List Nat) : Prop where
  nd : Ds.Nodup
  all : ∀ D ∈ Ds, B ≤ D ∧ W.heap[D]? = some (.deferred (some []))
theorem Mks.later {B : Nat} {W W' : World} {Ds : List Nat} (h : Mks B W Ds) (hk : ∀ k o, W.heap[k]? = some o → B ≤ k → o.isCells = false → W'.heap[k]? = some o) : Mks B W' Ds :=
  ⟨h.nd, fun D hD => ⟨(h.all D hD).1, hk D _ (h.all D hD).2 (h.all D hD).1 rfl⟩⟩
theorem Mks.below {B : Nat} {W W' : World} {Ds : List Nat} (h : Mks B W Ds) (l : Below W.heap.size W W') : Mks B W' Ds := h.later (fun k o hk _ _ => (l.block k (Array.getElem?_eq_some_iff.1 hk).1).trans hk)
theorem Mks.keep {B n₀ : Nat} {W W' : World} {Ds : List Nat} (h : Mks B W Ds) (l : KeepL brT n₀ B W W') : Mks B W' Ds := h.later (fun k o hk hB ho => l.same k o hk (.inl ⟨hB, ho⟩))
theorem Mks.own {β : Type} {B B0 : Nat} {Ds : List Nat} (hD : ∀ D ∈ Ds, D < B0) : OwnFrom B0 (fun (_ : β) W => Mks B W Ds) := fun s X Y row hs hg hr =>
  ⟨hs.nd, fun D h => ⟨(hs.all D h).1, (hg.block D (Array.getElem?_eq_some_iff.1 (hs.all D h).2).1 (fun e => by have := (hr D e.symm).1; have := hD D h; omega)).trans (hs.all D h).2⟩⟩
theorem size_own {β : Type} (B0 k : Nat) : OwnFrom B0 (fun (_ : β) W => k ≤ W.heap.size) := fun s X Y row hs hg hr => Nat.le_trans hs hg.size
theorem Mks.more {B D : Nat} {W : World} {Ds : List Nat} (h : Mks B W Ds) (hB : B ≤ D) (hD : W.heap[D]? = some (.deferred (some []))) (hn : D ∉ Ds) : Mks B W (D :: Ds) :=
  ⟨List.nodup_cons.2 ⟨hn, h.nd⟩, fun q hq => by
    rcases List.mem_cons.1 hq with rfl | hq
    · exact ⟨hB, hD⟩
    · exact h.all q hq⟩
/-- A function with such marks returns: they are taken up one by one. -/
theorem leaves_marks {P : Program} {n B : Nat} {fn : Func} {tmps : Array Value} {S : World → Prop} (hS : OwnFrom B (fun (_ : Unit) W => S W)) (hres : fn.results = #[]) :
    ∀ (Ds : List Nat) (W : World), S W → Mks B W Ds → LeavesInM Fence.wide n P fn tmps (fun e W' => (∃ v, e = .returned v) ∧ S W') (Ds.map mkD) .returning W
  | [], W, h, _ => ⟨_, results_none hres tmps P W, ⟨_, rfl⟩, h⟩
  | D :: Ds, W, h, hm => by
    obtain ⟨hB, hD⟩ := hm.all D (List.mem_cons_self ..)
    have hlt := (Array.getElem?_eq_some_iff.1 hD).1
    refine ⟨by simp, .inl ⟨D, _, rfl, run_takeDeferred hD, leaves_marks hS hres Ds _ ?_ ?_⟩⟩
    · exact hS () W _ (some D) h (grownBy_putObj' W D _) (fun r e => by cases e; exact ⟨hB, _, hD, rfl⟩)
    · refine ⟨(List.nodup_cons.1 hm.nd).2, fun q hq => ?_⟩
      obtain ⟨h1, h2⟩ := hm.all q (List.mem_cons_of_mem _ hq)
      exact ⟨h1, (World.putObj_heap_other (fun e => (List.nodup_cons.1 hm.nd).1 (by rw [← e]; exact hq))).trans h2⟩
theorem RoundIn.inRound6 {F : Fence} {n : Nat} {P : Program} {l : Nat} {f : FuncId} {tmps : Array Value} {assign body : Code} {w : World} {R : Ending → World → Prop} (q : Nat) (h : RoundIn F n P l f tmps assign body w R) : RoundIn (F.inRound q) n P l f tmps assign body w R := h
theorem nodes_any (u s : Value) (w : World) :
    Calls Try.prog 51 #[.agg #[u, s]] w fun e w' => e = .returned (.func (.func 69) #[] #[.pointer (some ⟨w.heap.size, 0, none⟩)]) ∧ w' = w.alloc (.cells #[u, s] 60) := by
  go_enter Try.func51, Try.ntmps51
  go_wp2_with fail
  go_ret
  exact ⟨rfl, rfl⟩
set_option maxRecDepth 100000 in
set_option maxHeartbeats 4000000 in
theorem nodes1_seq (p : List Int) (hok : trOk p = true) : ∀ (f n : Nat), n < p.length → p.length ≤ f + n → ∀ (n₀ Bb : Nat) (D : Nat → Prop) (s : Value) (w : World), w.heap[Bb]? = some (.cells #[.int .i64 (n : Int), s] 60 (0, 0)) → BrS p w D f (n : Int) s →
    SeqL Try.prog 69 #[.pointer (some ⟨Bb, 0, none⟩)] encI brT n₀ (brl p f (n : Int)) w := by
  intro f
  induction f with
  | zero => intro n hn hf; omega
  | succ f ih =>
    intro n hn hf n₀ Bb D s w hBb hS
    intro l room J Jx W hW hn0 hJ hJx hY h0
    refine anyRoom (m := 5) ?_
    obtain ⟨sa, sc, rfl, hsc, hsm⟩ := hS.form
    unfold maxLen at hsm
    have hl8 : (chl p (n : Int)).length ≤ 8 := by have := chl_len p (n : Int); have := (trOk_parts hok).2.1; omega
    obtain ⟨W0, hW0⟩ : ∃ W0, W0 = W.alloc (.cells #[.func (.yield l) #[] #[]] 72) := ⟨_, rfl⟩
    have l0 : Below W.heap.size W W0 := by rw [hW0]; exact (Below.refl _ _).alloc (Nat.le_refl _) _
    have HBb : Hid (W0.heap[Bb]? = some (.cells #[.int .i64 (n : Int), .slice sa (chl p (n : Int)).length sc] 60 (0, 0))) := Lib.hid (by
      have h1 := (hW.block Bb (Array.getElem?_eq_some_iff.1 hBb).1).trans hBb
      exact (l0.block Bb (Array.getElem?_eq_some_iff.1 h1).1).trans h1)
    have HYb : Hid (W0.heap[W.heap.size]? = some (.cells #[.func (.yield l) #[] #[]] 72 (0, 0))) := Lib.hid (by rw [hW0]; exact Boxed.new W _ _)
    have HS0 : Hid (BrS p W0 D (f + 1) (n : Int) (.slice sa (chl p (n : Int)).length sc)) := Lib.hid ((hS.tk (Tk.below hW)).tk (Tk.below l0))
    have HJ0 : Hid (J [] W0) := Lib.hid (hJ [] W W0 none h0 (by rw [hW0]; exact World.grownBy_alloc W _ none) (fun r e => by cases e))
    have HsW : Hid (W.heap.size ≤ W0.heap.size) := Lib.hid l0.size
    have HJ := Lib.hid hJ
    have HJx := Lib.hid hJx
    have HY := Lib.hid hY
    have HN0 := Lib.hid hn0
    have HIH := Lib.hid ih
    have HNat := Lib.hid (fun (i : Nat) (hi : i < (chl p (n : Int)).length) => chl_nat hok (n := n) (List.getElem_mem hi))
    have HFn := Lib.hid hf
    have HW0 := Lib.hid hW0
    clear ih hf hY hJ hJx h0 hW0 l0 hBb hS hW hn0 hn
    obtain ⟨Y, eY⟩ : ∃ Y, Y = W.heap.size := ⟨_, rfl⟩
    rw [← eY] at HYb
    have EY := Lib.hid eY
    clear eY
    have y0 : W0.cell? ⟨Y, 0, none⟩ = some (.func (.yield l) #[] #[]) := by simp [World.cell?, HYb.out]
    have b0 : W0.cell? ⟨Bb, 0, none⟩ = some (.int .i64 (n : Int)) := by simp [World.cell?, HBb.out]
    obtain ⟨L, hL⟩ : ∃ L, L = brl p (f + 1) (n : Int) := ⟨_, rfl⟩
    rw [← hL] at HY ⊢
    have HL := Lib.hid hL
    clear hL
    have HPre1 : Hid ([(n : Int)] <+: L) := Lib.hid ⟨(chl p (n : Int)).flatMap (brl p f), by rw [HL.out]; rfl⟩
    have HSt : Hid (OwnFrom W.heap.size (fun (_ : Unit) W' => J L W' ∨ ∃ pre, pre <+: L ∧ Jx pre W')) := Lib.hid (fun s A B row hs hg hr => hs.elim (fun h => .inl (HJ.out _ A B row h hg hr)) (fun ⟨pre, h1, h2⟩ => .inr ⟨pre, h1, HJx.out _ A B row h2 hg hr⟩))
    obtain ⟨fn, tmps, assign, body, hyy, hR⟩ := HY.out (5 - 1) [] (n : Int) W0 HJ0.out ⟨(chl p (n : Int)).flatMap (brl p f), by rw [HL.out]; rfl⟩
    refine callsIn_of_wp_marks Try.func69 rfl trivial ?_ rfl
    simp only [Try.ntmps69, List.size_toArray, List.length_cons, List.length_nil, Nat.reduceAdd, Nat.reduceSub, Array.replicate_succ, Array.replicate_zero, List.push_toArray, List.append_toArray, List.nil_append, List.cons_append]
    gi_upto_region 1 with fail
    rw [← HW0.out, ← EY.out]
    gi_wp2
    refine hR.mono ?_
    rintro e W3 (⟨rfl, hJ3, hk3⟩ | ⟨rfl, hJx3, hk3⟩)
    rotate_left
    · gi_wp2
      exact leaves_marks (S := fun W' => J L W' ∨ ∃ pre, pre <+: L ∧ Jx pre W') HSt.out rfl [] W3 (.inr ⟨[(n : Int)], HPre1.out, hJx3⟩) ⟨List.nodup_nil, fun q hq => by cases hq⟩
    · have HT3 := Lib.hid (Tk.keep hk3)
      have HB3 := Lib.hid (HT3.out Bb _ _ _ HBb.out (.inl rfl))
      have b1 : W3.cell? ⟨Bb, 1, none⟩ = some (.slice sa (chl p (n : Int)).length sc) := by simp [World.cell?, HB3.out]
      obtain ⟨m, hM⟩ : ∃ m, m = (chl p (n : Int)).length := ⟨_, rfl⟩
      rw [← hM] at b1 hl8 hsc
      have HM := Lib.hid hM
      clear hM
      have HPre : Hid (∀ (i : Nat) (h : i < (chl p (n : Int)).length) (q : List Int), q <+: brl p f ((chl p (n : Int))[i]) → ((n : Int) :: ((chl p (n : Int)).take i).flatMap (brl p f)) ++ q <+: L) := Lib.hid (fun i h q ⟨r, hr⟩ => by
        rw [HL.out]
        refine ⟨r ++ ((chl p (n : Int)).drop (i + 1)).flatMap (brl p f), ?_⟩
        show _ = (n : Int) :: (chl p (n : Int)).flatMap (brl p f)
        have e : chl p (n : Int) = (chl p (n : Int)).take i ++ (chl p (n : Int))[i] :: (chl p (n : Int)).drop (i + 1) := by rw [← List.drop_eq_getElem_cons h, List.take_append_drop]
        conv => rhs; rw [e]
        rw [List.flatMap_append, List.flatMap_cons, ← hr]
        simp)
      have HNx : Hid (∀ (i : Nat) (h : i < (chl p (n : Int)).length), ((n : Int) :: ((chl p (n : Int)).take i).flatMap (brl p f)) ++ brl p f ((chl p (n : Int))[i]) = (n : Int) :: ((chl p (n : Int)).take (i + 1)).flatMap (brl p f)) := Lib.hid (fun i h => by
        rw [List.take_succ_eq_append_getElem h, List.flatMap_append]
        simp)
      have HJ3 : Hid (J ((n : Int) :: ((chl p (n : Int)).take 0).flatMap (brl p f)) W3) := Lib.hid hJ3
      have HM3 : Hid (Mks W.heap.size W3 []) := Lib.hid ⟨List.nodup_nil, fun q hq => by cases hq⟩
      have HW3 : Hid (W.heap.size ≤ W3.heap.size) := Lib.hid (Nat.le_trans HsW.out hk3.below.size)
      have ff1 : Fence.wide.fn 51 := trivial
      clear hJ3 hk3 y0 b0
      gi_wp2
      refine wpIn_loop_ghost_k (fun k a wr => ∃ (i : Nat) (Ds : List Nat) (u4 u5 ui u15 u16 u17 u18 u19 u20 u21 u22 u23 u24 u25 : Value), i ≤ m ∧ k = m - i + 1 ∧ ui = .int .i64 (i : Int) ∧ a = { tmps := #[.func (.yield l) #[] #[], .pointer (some ⟨Bb, 0, none⟩), .pointer (some ⟨Y, 0, none⟩), undef, u4, u5, .func (.yield l) #[] #[], .pointer (some ⟨Bb, 0, none⟩), .int .i64 (n : Int), .bool true, .bool false, .pointer (some ⟨Bb, 1, none⟩), .slice sa m sc, .int .i64 (m : Int), ui, u15, u16, u17, u18, u19, u20, u21, u22, u23, u24, u25], defers := Ds.map mkD } ∧
        Hid (J ((n : Int) :: ((chl p (n : Int)).take i).flatMap (brl p f)) wr) ∧ Hid (Tk W0 wr) ∧ Hid (Mks W.heap.size wr Ds) ∧ Hid (W.heap.size ≤ wr.heap.size)) (m + 1) ⟨0, [], _, _, _, _, _, _, _, _, _, _, _, _, _, _, Nat.zero_le _, by omega, rfl, rfl, HJ3, HT3, HM3, HW3⟩ ?_
      clear HJ3 HT3 HM3 HW3 b1 HB3
      intro gk a wr hI Jv Kv hJv hKv
      obtain ⟨i, Ds, u4, u5, ui, u15, u16, u17, u18, u19, u20, u21, u22, u23, u24, u25, hi, rfl, rfl, rfl, HJi, HTi, HMi, HWi⟩ := hI
      by_cases him : i < m
      · have hic : i < (chl p (n : Int)).length := by rw [← HM.out]; exact him
        obtain ⟨c, ec, hnc, hcl, hpc⟩ := HNat.out i hic
        obtain ⟨a2, cap2, e2, _, _, hcs⟩ := HS0.out.tk HTi.out
        cases e2
        obtain ⟨g, off, cur, fz, a', n', c', rfl, _, hg, hc0, hc1, hbs⟩ := hcs i hic
        rw [← Nat.add_assoc] at hc1
        have HBS := Lib.hid hbs
        have HPi := Lib.hid (HPre.out i hic)
        have HNi := Lib.hid (HNx.out i hic)
        rw [ec] at hc0 HBS HPi HNi
        clear hcs hg hbs
        gi_upto_region 5 with fail
        obtain ⟨W4, hW4⟩ : ∃ W4, W4 = wr.alloc (.cells #[.int .i64 (c : Int), .slice a' n' c'] 60) := ⟨_, rfl⟩
        have l4 : Below wr.heap.size wr W4 := by rw [hW4]; exact (Below.refl _ _).alloc (Nat.le_refl _) _
        have g4 : wr.grownBy W4 none := by rw [hW4]; exact World.grownBy_alloc _ _ _
        have hk4 : W4.heap[wr.heap.size]? = some (.cells #[.int .i64 (c : Int), .slice a' n' c'] 60 (0, 0)) := by rw [hW4]; exact heap_alloc_new wr _
        have z0 : W4.cell? ⟨wr.heap.size, 0, none⟩ = some (.int .i64 (c : Int)) := by simp [World.cell?, hk4]
        have z1 : W4.cell? ⟨wr.heap.size, 1, none⟩ = some (.slice a' n' c') := by simp [World.cell?, hk4]
        rw [← hW4]
        have HL4 := Lib.hid l4
        have HG4 := Lib.hid g4
        clear hW4 l4 g4 hk4
        gi_wp2_with (gi_at_call 51; refine (callsIn_wide.2 (nodes_any _ _ _)).mono ?_; rintro e W5 ⟨rfl, hW5⟩)
        have l5 : Below W4.heap.size W4 W5 := by rw [hW5]; exact (Below.refl _ _).alloc (Nat.le_refl _) _
        have g5 : W4.grownBy W5 none := by rw [hW5]; exact World.grownBy_alloc _ _ _
        have hk5 : W5.heap[W4.heap.size]? = some (.cells #[.int .i64 (c : Int), .slice a' n' c'] 60 (0, 0)) := by rw [hW5]; exact heap_alloc_new W4 _
        rw [← hW5]
        obtain ⟨pr, hpr⟩ : ∃ pr, pr = (n : Int) :: ((chl p (n : Int)).take i).flatMap (brl p f) := ⟨_, rfl⟩
        have hj5 : J pr W5 := by rw [hpr]; exact HJ.out _ wr W5 none HJi.out (grown_trans HG4.out g5) (fun r e => by cases e)
        have ht5 : Tk W0 W5 := (HTi.out.trans (Tk.below HL4.out)).trans (Tk.below l5)
        have hm5 : Mks W.heap.size W5 Ds := (HMi.out.below HL4.out).below l5
        have hs5 : W.heap.size ≤ W5.heap.size := Nat.le_trans HWi.out (Nat.le_trans HL4.out.size l5.size)
        have hb5 : BrS p W5 D f (c : Int) (.slice a' n' c') := (HBS.out.tk (Tk.below HL4.out)).tk (Tk.below l5)
        have hpx : ∀ q, q <+: brl p f (c : Int) → pr ++ q <+: L := fun q hq => by rw [hpr]; exact HPi.out q hq
        have hnx : pr ++ brl p f (c : Int) = (n : Int) :: ((chl p (n : Int)).take (i + 1)).flatMap (brl p f) := by rw [hpr]; exact HNi.out
        have HPx := Lib.hid hpx
        have HNx5 := Lib.hid hnx
        have HFc : Hid (p.length ≤ f + c) := Lib.hid (by have := HFn.out; omega)
        clear hW5 hpr HPi HNi hpx hnx HPre HNx HNat g5 ec hic
        refine range_L (gf := 69) (lb := #[.pointer (some ⟨W4.heap.size, 0, none⟩)]) (by first | rfl | simp [go_sem]) (enters_of Try.func69 (by kernel_rfl) rfl)
          (HIH.out c hcl HFc.out n₀ W4.heap.size D (.slice a' n' c') W5 hk5 hb5) (Below.refl _ _) (Nat.le_trans HN0.out hs5) (fun _ => rfl)
          (fun pre Wx => ((J (pr ++ pre) Wx ∧ Tk W0 Wx) ∧ Mks W.heap.size Wx Ds) ∧ W.heap.size ≤ Wx.heap.size)
          (fun cc pre Wx => (cc = .ret ∧ Jx (pr ++ pre) Wx) ∧ Mks W.heap.size Wx Ds)
          ?hI ?hIx ⟨⟨⟨by rw [List.append_nil]; exact hj5, ht5⟩, hm5⟩, hs5⟩ ?a1 ?assign ?body ?done ?stop
        case hI =>
          refine OwnFrom.and (OwnFrom.and (OwnFrom.and (fun s A B row hs hg hr => ?_) (Tk.own _ _)) (Mks.own (fun D hD => (Array.getElem?_eq_some_iff.1 (hm5.all D hD).2).1))) (size_own _ _)
          exact ownFrom_up HJ.out hs5 (pr ++ s) A B row hs hg hr
        case hIx =>
          intro cc
          refine OwnFrom.and (fun s A B row hs hg hr => ⟨hs.1, ?_⟩) (Mks.own (fun D hD => (Array.getElem?_eq_some_iff.1 (hm5.all D hD).2).1))
          exact ownFrom_up HJx.out hs5 (pr ++ s) A B row hs.2 hg hr
        case assign =>
          intro m2 l2 x Wx K hK
          gi_wp2
          exact hK
        case body =>
          rintro m2 l2 pre x Wx ⟨⟨⟨hjx, htx⟩, hmx⟩, hsx⟩ hpre
          have hyb := htx _ _ _ _ HYb.out (.inr rfl)
          have y0 : Wx.cell? ⟨Y, 0, none⟩ = some (.func (.yield l) #[] #[]) := by simp [World.cell?, hyb]
          have hpp := HPx.out _ hpre
          rw [← List.append_assoc] at hpp
          obtain ⟨fn2, tm2, as2, bo2, hy2, hR2⟩ := HY.out (m2 - 1) (pr ++ pre) x Wx hjx hpp
          have HTx := Lib.hid htx
          have HMx := Lib.hid hmx
          have HSx := Lib.hid hsx
          have HS5 := Lib.hid hs5
          clear hjx htx hmx hsx hpre hyb hpp hs5 hm5 ht5 hj5 hb5 hk5 l5 z0 z1 hc0 hc1 hyy hR
          gi_wp2
          refine ⟨fun h => absurd h (by simp [Fence.wide]), ?_⟩
          refine (RoundIn.inRound6 l2 hR2).mono ?_
          rintro e Wy (⟨rfl, hjy, hky⟩ | ⟨rfl, hxy, hky⟩)
          · have HJy := Lib.hid hjy
            have HKy := Lib.hid hky
            clear hjy hky y0 hy2 hR2
            gi_wp2
            exact ⟨HKy.out.mono HS5.out, ⟨⟨by rw [← List.append_assoc]; exact HJy.out, HTx.out.trans (Tk.keep HKy.out)⟩, HMx.out.keep HKy.out⟩, Nat.le_trans HSx.out HKy.out.below.size⟩
          · have HJy := Lib.hid hxy
            have HKy := Lib.hid hky
            clear hxy hky y0 hy2 hR2
            gi_wp2
            exact ⟨HKy.out.mono HS5.out, ⟨rfl, by rw [← List.append_assoc]; exact HJy.out⟩, HMx.out.keep HKy.out⟩
        case done =>
          rintro D2 Wd hD2 ⟨⟨⟨hjx, htx⟩, hmx⟩, hsx⟩ hK
          have hmn : Mks W.heap.size Wd (D2 :: Ds) := hmx.more (Nat.le_trans hs5 hD2) hK (fun hin => by have := (Array.getElem?_eq_some_iff.1 (hm5.all D2 hin).2).1; omega)
          rw [HNx5.out] at hjx
          have HJd := Lib.hid hjx
          have HTd := Lib.hid htx
          have HMd := Lib.hid hmn
          have HSd := Lib.hid hsx
          clear hjx htx hmx hsx hK hmn hs5 hm5 ht5 hj5 hb5 hk5 l5 z0 z1 hc0 hc1 hyy hR
          gi_wp2
          refine Handed.intro (m - (i + 1) + 1) (by omega) (hJv _ _ _ ⟨i + 1, D2 :: Ds, _, _, _, _, _, _, _, _, _, _, _, _, _, _, by omega, rfl, ?ui, rfl, HJd, HTd, HMd, HSd⟩)
          case ui => go_num
        case stop =>
          rintro D2 cc pre Wd hD2 hpre ⟨⟨rfl, hjx⟩, hmx⟩ hK
          have hmn : Mks W.heap.size Wd (D2 :: Ds) := hmx.more (Nat.le_trans hs5 hD2) hK (fun hin => by have := (Array.getElem?_eq_some_iff.1 (hm5.all D2 hin).2).1; omega)
          have HX : Hid (∃ pre, pre <+: L ∧ Jx pre Wd) := Lib.hid ⟨pr ++ pre, HPx.out pre hpre, hjx⟩
          have HMd := Lib.hid hmn
          clear hjx hmx hK hmn hs5 hm5 ht5 hj5 hb5 hk5 l5 z0 z1 hc0 hc1 hyy hR
          gi_wp2
          exact leaves_marks (S := fun W' => J L W' ∨ ∃ pre, pre <+: L ∧ Jx pre W') HSt.out rfl (D2 :: Ds) Wd (.inr HX.out) HMd.out
      · obtain rfl : i = m := by omega
        have HE : Hid (J L wr) := Lib.hid (by
          have h := HJi.out
          rw [List.take_of_length_le (by rw [← HM.out]; exact Nat.le_refl _)] at h
          rw [HL.out]; exact h)
        gi_wp2
        exact leaves_marks (S := fun W' => J L W' ∨ ∃ pre, pre <+: L ∧ Jx pre W') HSt.out rfl Ds wr (.inl HE.out) HMi.out
end Go.Proofs.Ytejdphfcogfcmaa
