/-
  Trees: the program's way up from a node; paths.
-/
import Derived.Test.YtejdphfcogfcmaaTreeI2
import Derived.Test.YtejdphfcogfcmaaSeqA
import Derived.Test.YtejdphfcogfcmaaRevI
namespace Go.Proofs.Ytejdphfcogfcmaa
open Go.RowKit Go.Shelf
set_option linter.unusedVariables false

attribute [local go_sem] Oper.semAt_some

set_option maxRecDepth 100000 in
set_option maxHeartbeats 2000000 in
/-- The iterator 'upFrom' gives the nodes from a node up to the source. -/
theorem upFrom1_seq (T : TypeId → Prop) (x Bn Bt : Nat) (v : Value) (p : List Int) (w : World) (hok : trOk p = true) (hx : x < p.length) (hlt : Bn < w.heap.size) (hBn : w.cell? ⟨Bn, 0, none⟩ = some (.int .i64 (x : Int))) (ht : Tr w Bt v p) :
    SeqL Try.prog 66 #[.pointer (some ⟨Bn, 0, none⟩), .pointer (some ⟨Bt, 0, none⟩)] encI T w.heap.size (upL p (x : Int)) w := by
  intro l n0 J Jx W hW _ hJ hJx hY h0
  obtain ⟨n, hn1⟩ : ∃ n, 1 ≤ n := ⟨5, by omega⟩
  refine anyRoom (m := n) ?_
  have hcn := (hW.cell (p := ⟨Bn, 0, none⟩) hlt).trans hBn
  have HT := Lib.hid ht
  have h8 := (trOk_parts hok).2.1
  have HStep := Lib.hid (fun (k : Nat) (hk : k < p.length) => upL_step hok hk)
  have HBd := Lib.hid (fun (k : Nat) (hk : k < p.length) => @par6_bd p hok k hk)
  have HEnd := Lib.hid (upL_end p (n := -1) (by omega))
  have HWb := Lib.hid hW
  obtain ⟨L, hL⟩ : ∃ L, L = upL p (x : Int) := ⟨_, rfl⟩
  rw [← hL] at hY ⊢
  have HY := Lib.hid hY
  have HL := Lib.hid hL
  have HJ0 := Lib.hid h0
  clear ht hok hW hY h0 hL hJ hJx
  obtain ⟨a, cap, rfl, hc1, hm1⟩ := HT.out.len
  unfold maxLen at hm1
  obtain ⟨m, hM⟩ : ∃ m, m = p.length := ⟨_, rfl⟩
  rw [← hM] at hx h8 HT hc1 HStep HBd
  have HM := Lib.hid hM
  clear hM
  refine callsIn_of_wp Try.func66 rfl trivial ?_ rfl
  simp only [Try.ntmps66, List.size_toArray, List.length_cons, List.length_nil, Nat.reduceAdd, Nat.reduceSub, Array.replicate_succ, Array.replicate_zero, List.push_toArray, List.append_toArray, List.nil_append, List.cons_append]
  gi_wp2
  gi_loopg [4] (m + 2) (fun k r wr => ∃ (y : Int) (pre : List Int), -1 ≤ y ∧ y < m ∧ (y + 1).toNat < k ∧ r = .int .i64 y ∧ Hid (L = pre ++ upL p y) ∧ Hid (J pre wr) ∧ Hid (Below w.heap.size w wr))
  case atStart => exact ⟨x, [], by omega, by omega, by omega, rfl, Lib.hid HL.out, HJ0, HWb⟩
  case round =>
    clear hcn
    obtain ⟨y, pre, hy1, hym, hyk, rfl, HP, HJ, HB⟩ := hrel
    by_cases hy : y = -1
    · subst hy
      have HE : Hid (J L wr) := Lib.hid (by
        have e := HP.out
        rw [HEnd.out, List.append_nil] at e
        rw [e]; exact HJ.out)
      gi_wp2
      all_goals
        refine ⟨fun _ _ => trivial, ?_⟩
        gi_wp2
        go_end0
        exact ⟨⟨_, rfl⟩, .inl HE.out⟩
    · obtain ⟨k, rfl⟩ : ∃ k : Nat, y = (k : Int) := ⟨y.toNat, by omega⟩
      have hkm : k < m := by omega
      have hne : ((k : Int) != -1) = true := by first | (simp; done) | (simp; omega)
      have e := HP.out
      rw [HStep.out k hkm] at e
      have hpre : pre ++ [(k : Int)] <+: L := ⟨upL p (par6 p k), by simp [e]⟩
      have HPre := Lib.hid hpre
      have HP2 : Hid (L = (pre ++ [(k : Int)]) ++ upL p (par6 p k)) := Lib.hid (by simp [e])
      obtain ⟨b1, b2⟩ := HBd.out k hkm
      obtain ⟨fn, tmps, assign, body, hyy, hR⟩ := HY.out (n - 1) pre (k : Int) wr HJ.out hpre
      clear e hpre
      gi_wp2
      refine hR.mono ?_
      rintro e W3 (⟨rfl, hJ3, hk3⟩ | ⟨rfl, hJx3, hk3⟩)
      · have HB3 := Lib.hid (HB.out.trans hk3.below)
        have HT3 := Lib.hid (HT.out.below HB3.out)
        have HJ3 := Lib.hid hJ3
        have hxb := HT3.out.cell
        obtain ⟨b, off, rfl, hck⟩ := HT3.out.get (k := k) (by rw [← HM.out]; exact hkm)
        generalize par6 p k = z at hck HP2 b1 b2
        clear hJ3 hk3 HB HT
        gi_wp2
        gi_roundg ((z + 1).toNat + 1)
        case measure => omega
        case rel => exact ⟨z, pre ++ [(k : Int)], by omega, by omega, by omega, rfl, HP2, HJ3, HB3⟩
      · have HX := Lib.hid (⟨pre ++ [(k : Int)], HPre.out, hJx3⟩ : ∃ pre, pre <+: L ∧ Jx pre W3)
        clear hJx3 hk3
        gi_wp2
        go_end0
        exact ⟨⟨_, rfl⟩, .inr HX.out⟩
/-- 'upFrom': the iterator, and what it gives. -/
theorem upFrom_any (T : TypeId → Prop) (x : Nat) (v : Value) (p : List Int) (w : World) (hok : trOk p = true) (hx : x < p.length) (hrow : Row w v p.length (p.map (Value.int .i64))) :
    Calls Try.prog 45 #[.agg #[v], .int .i64 x] w fun e w' => ∃ Bn Bt : Nat, e = .returned (.func (.func 66) #[] #[.pointer (some ⟨Bn, 0, none⟩), .pointer (some ⟨Bt, 0, none⟩)]) ∧
      SeqL Try.prog 66 #[.pointer (some ⟨Bn, 0, none⟩), .pointer (some ⟨Bt, 0, none⟩)] encI T w'.heap.size (upL p (x : Int)) w' ∧ Below w.heap.size w w' := by
  go_enter Try.func45, Try.ntmps45
  go_wp2_with fail
  go_ret
  have hT : Tr (w.alloc (.cells #[v] 26)) w.heap.size v p := Tr.new hrow
  have hT2 := hT.below (w' := (w.alloc (.cells #[v] 26)).alloc (.cells #[.int .i64 (x : Int)] 3)) ((Below.refl _ _).alloc (Nat.le_refl _) _)
  have hN := Boxed.new (w.alloc (.cells #[v] 26)) 3 (.int .i64 (x : Int))
  rw [World.size_alloc] at hN
  exact ⟨w.heap.size + 1, w.heap.size, rfl, upFrom1_seq T x _ _ v p _ hok hx hN.lt hN.cell hT2, ((Below.refl w.heap.size w).alloc (Nat.le_refl _) _).alloc (by simp) _⟩
/-- No cells are asked to be kept, but what lies below. -/
def noT : TypeId → Prop := fun _ => False
set_option maxRecDepth 100000 in
set_option maxHeartbeats 2000000 in
theorem implPath_any (v : Value) (p : List Int) (x : Int) (w : World) (hrow : Row w v p.length (p.map (Value.int .i64))) :
    Calls Try.prog 14 #[.agg #[v], .int .i64 x] w fun e w' => ∃ v', e = .returned (.tuple #[v', .bool (ndOk p x)]) ∧ w'.ownsRow w.heap.size 3 1 v' (okL (ndOk p x) (pth p x)).length ((okL (ndOk p x) (pth p x)).map (Value.int .i64)) ∧ Below w.heap.size w w' := by
  obtain ⟨W, hW⟩ : ∃ W, W = w.alloc (.cells #[v] 26) := ⟨_, rfl⟩
  have HT : Hid (Tr W w.heap.size v p) := Lib.hid (by rw [hW]; exact Tr.new hrow)
  have HB : Hid (Below w.heap.size w W) := Lib.hid (by rw [hW]; exact (Below.refl w.heap.size w).alloc (Nat.le_refl _) _)
  have HW := Lib.hid hW
  have HG := Lib.hid (hasNode1_any v p x W HT.out.row)
  have HOk := Lib.hid (@ndOk_parts p x)
  have hx := HT.out.cell
  obtain ⟨R, hR⟩ : ∃ R, R = w.heap.size := ⟨_, rfl⟩
  rw [← hR] at HT hx
  have HR := Lib.hid hR
  clear hW hrow hR
  cases ok : ndOk p x with
  | false =>
    rw [ok] at HG
    clear HOk ok
    go_enter Try.func14, Try.ntmps14
    go_upto_region 1 with fail
    rw [← HW.out, ← HR.out]
    go_wp2_with fail
    refine HG.out.mono ?_
    rintro e W2 ⟨rfl, l2⟩
    have HB2 := Lib.hid (HB.out.trans (l2.mono HB.out.size))
    clear l2
    go_wp2_with fail
    go_ret2
    exact ⟨_, rfl, own_base (World.ownsRow_made W2 #[] 0 (Nat.le_refl _) (Nat.zero_le _) rfl) HB2.out.size, HB2.out.alloc HB2.out.size _⟩
  | true =>
    rw [ok] at HG
    obtain ⟨ht, x0, x1⟩ := HOk.out ok
    clear HOk ok
    obtain ⟨k, rfl⟩ : ∃ k : Nat, x = (k : Int) := ⟨x.toNat, by omega⟩
    have hk : k < p.length := by omega
    have HU := Lib.hid (fun (W1 : World) hr => upFrom_any noT k v p W1 ht hk hr)
    have hlen : (upL p (k : Int)).length ≤ 1000 := by
      have := upL_len ht hk
      have := (trOk_parts ht).2.1
      omega
    have hpos : 0 < (upL p (k : Int)).length := by rw [upL_step ht hk]; simp
    have HC := Lib.hid (fun (Bn Bt : Nat) (W1 : World) hs => collect_any noT (fun h => h) (fun h => h) 66 #[.pointer (some ⟨Bn, 0, none⟩), .pointer (some ⟨Bt, 0, none⟩)] (enters_of Try.func66 (by kernel_rfl) rfl) (upL p (k : Int)) hlen W1.heap.size W1 hs (Nat.le_refl _))
    have HE : Hid (okL true (pth p (k : Int)) = (upL p (k : Int)).reverse) := Lib.hid (by rw [upL_rev p x0]; rfl)
    have HRv := Lib.hid (fun (g cap base : Nat) (W1 : World) ho => reverse_any g cap (upL p (k : Int)).length base (upL p (k : Int)) W1 rfl hlen ho)
    have HP := Lib.hid hpos
    rw [HE.out]
    generalize upL p (k : Int) = L at HU HC HRv HP ⊢
    clear ht hk x0 x1 hlen hpos HE
    go_enter Try.func14, Try.ntmps14
    go_upto_region 1 with fail
    rw [← HW.out, ← HR.out]
    go_wp2_with fail
    refine HG.out.mono ?_
    rintro e W2 ⟨rfl, l2⟩
    have HB2 := Lib.hid (HB.out.trans (l2.mono HB.out.size))
    have HT2 := Lib.hid (HT.out.below l2)
    clear l2 hx HT
    have hx := HT2.out.cell
    go_wp2_with fail
    refine (HU.out _ HT2.out.row).mono ?_
    rintro e W3 ⟨Bn, Bt, rfl, hs3, l3⟩
    have HB3 := Lib.hid (HB2.out.trans (l3.mono HB2.out.size))
    have HS3 := Lib.hid (HC.out Bn Bt W3 hs3)
    clear hs3 l3 hx HC HU
    go_wp2_with fail
    refine HS3.out.mono ?_
    rintro e W4 ⟨u, rfl, o4, l4⟩
    have HB4 := Lib.hid (HB3.out.trans (l4.mono HB3.out.size))
    obtain ⟨g, c, rfl⟩ := own_form o4 HP.out
    have HO4 := Lib.hid (own_base o4 HB3.out.size)
    have hg := (o4.lt g rfl).1
    clear o4 l4 HS3
    go_wp2_with fail
    refine (HRv.out g c w.heap.size _ HO4.out).mono ?_
    rintro e W5 ⟨rfl, o5, g5⟩
    have HO5 := Lib.hid o5
    have HB5 := Lib.hid (HB4.out.grown g5 HB4.out.size (fun q hq => (HO4.out.lt q hq).1))
    clear o5 g5 HRv
    go_wp2_with fail
    go_ret2
    exact ⟨_, rfl, by rw [List.length_reverse]; exact HO5.out, HB5.out⟩
end Go.Proofs.Ytejdphfcogfcmaa
