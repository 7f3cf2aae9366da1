/-
  Trees: the program's NodesBelow.
-/
import Derived.Test.YtejdphfcogfcmaaBrn2
import Derived.Test.YtejdphfcogfcmaaInsOrd
namespace Go.Proofs.Ytejdphfcogfcmaa
open Go.RowKit Go.Shelf
set_option linter.unusedVariables false

theorem sorted_any (T : TypeId → Prop) (hT1 : ¬ T 3) (hT2 : ¬ T 24) (g : Nat) (lb : Array Value) (eg : ∀ args w, (callFunc g args).run Try.prog w = .ok (.enter g args) w) (L : List Int) (hL : L.length ≤ 8) (h0 : 0 < L.length) (n₀ : Nat) (w : World)
    (hseq : SeqL Try.prog g lb encI T n₀ L w) (hn0 : n₀ ≤ w.heap.size) :
    Calls Try.prog 49 #[.func (.func g) #[] lb] w fun e W' => ∃ v, e = .returned v ∧ W'.ownsRow w.heap.size 3 1 v L.length ((sortL ltI L).map (Value.int .i64)) ∧ Below w.heap.size w W' := by
  have HC := Lib.hid (collect_any T hT1 hT2 g lb eg L (by omega) n₀ w hseq hn0)
  have HS := Lib.hid (fun (g cap base : Nat) (W1 : World) ho => sort_any g cap L.length base L W1 rfl hL ho)
  have H0 := Lib.hid h0
  clear hseq eg h0
  go_enter Try.func49, Try.ntmps49
  go_wp2_with fail
  refine HC.out.mono ?_
  rintro e W ⟨v, rfl, o, l⟩
  obtain ⟨g1, c1, rfl⟩ := own_form o H0.out
  have HO := Lib.hid o
  have HB := Lib.hid l
  clear o l HC
  go_wp2_with fail
  refine (HS.out g1 c1 w.heap.size _ HO.out).mono ?_
  rintro e W2 ⟨rfl, o2, g2⟩
  have HO2 := Lib.hid o2
  have HB2 := Lib.hid (HB.out.grown g2 HB.out.size (fun q hq => (HO.out.lt q hq).1))
  clear o2 g2 HS
  go_wp2_with fail
  go_ret
  exact ⟨_, rfl, HO2.out, HB2.out⟩
set_option maxRecDepth 100000 in
set_option maxHeartbeats 2000000 in
theorem implBelow_any (v : Value) (p : List Int) (x : Int) (w : World) (hrow : Row w v p.length (p.map (Value.int .i64))) :
    Calls Try.prog 17 #[.agg #[v], .int .i64 x] w fun e w' => ∃ v', e = .returned (.tuple #[v', .bool (ndOk p x)]) ∧ w'.ownsRow w.heap.size 3 1 v' (okL (ndOk p x) (nbl p x)).length ((okL (ndOk p x) (nbl p x)).map (Value.int .i64)) ∧ Below w.heap.size w w' := by
  obtain ⟨W, hW⟩ : ∃ W, W = w.alloc (.cells #[v] 26) := ⟨_, rfl⟩
  have HT : Hid (Tr W w.heap.size v p) := Lib.hid (by rw [hW]; exact Tr.new hrow)
  have HB : Hid (Below w.heap.size w W) := Lib.hid (by rw [hW]; exact (Below.refl w.heap.size w).alloc (Nat.le_refl _) _)
  have HW := Lib.hid hW
  have HG := Lib.hid (hasNode1_any v p x W HT.out.row)
  have HOk := Lib.hid (@ndOk_parts p x)
  have hx := HT.out.cell
  obtain ⟨R, hR⟩ : ∃ R, R = w.heap.size := ⟨_, rfl⟩
  rw [← hR] at HT hx
  have HR := Lib.hid hR
  clear hW hrow hR
  cases ok : ndOk p x with
  | false =>
    rw [ok] at HG
    clear HOk ok
    go_enter Try.func17, Try.ntmps17
    go_upto_region 1 with fail
    rw [← HW.out, ← HR.out]
    go_wp2_with fail
    refine HG.out.mono ?_
    rintro e W2 ⟨rfl, l2⟩
    have HB2 := Lib.hid (HB.out.trans (l2.mono HB.out.size))
    clear l2
    go_wp2_with fail
    go_ret2
    exact ⟨_, rfl, own_base (World.ownsRow_made W2 #[] 0 (Nat.le_refl _) (Nat.zero_le _) rfl) HB2.out.size, HB2.out.alloc HB2.out.size _⟩
  | true =>
    rw [ok] at HG
    obtain ⟨ht, x0, x1⟩ := HOk.out ok
    clear HOk ok
    obtain ⟨k, rfl⟩ : ∃ k : Nat, x = (k : Int) := ⟨x.toNat, by omega⟩
    have hk : k < p.length := by omega
    have hlen : (brl p p.length (k : Int)).length ≤ 8 := brl_len ht hk (by omega)
    have hpos : 0 < (brl p p.length (k : Int)).length := by
      obtain ⟨f, hf⟩ : ∃ f, p.length = f + 1 := ⟨p.length - 1, by omega⟩
      rw [hf, brl_succ]; simp
    have hsrt : sortL ltI (brl p p.length (k : Int)) = nbl p (k : Int) := sorted_nbl ht hk (by omega) (sortL_perm _ _) (sortL_sorted _)
    have HU := Lib.hid (fun (W1 : World) hr => branchAt_any p ht p.length k hk (by omega) v W1 hr)
    have HQ := Lib.hid (fun (Bb : Nat) (D : Nat → Prop) (s : Value) (W1 : World) h1 h2 => nodes1_seq p ht p.length k hk (by omega) W1.heap.size Bb D s W1 h1 h2)
    have HC := Lib.hid (fun (Bb : Nat) (W1 : World) hs => sorted_any brT (by unfold brT; decide) (by unfold brT; decide) 69 #[.pointer (some ⟨Bb, 0, none⟩)] (enters_of Try.func69 (by kernel_rfl) rfl) (brl p p.length (k : Int)) hlen hpos W1.heap.size W1 hs (Nat.le_refl _))
    have HE : Hid (okL true (nbl p (k : Int)) = sortL ltI (brl p p.length (k : Int))) := Lib.hid hsrt.symm
    have HLn : Hid ((sortL ltI (brl p p.length (k : Int))).length = (brl p p.length (k : Int)).length) := Lib.hid (sortL_len _ _)
    rw [HE.out, HLn.out]
    generalize brl p p.length (k : Int) = L at HQ HC ⊢
    clear ht x0 x1 hk hlen hpos hsrt HE HLn
    go_enter Try.func17, Try.ntmps17
    go_upto_region 1 with fail
    rw [← HW.out, ← HR.out]
    go_wp2_with fail
    refine HG.out.mono ?_
    rintro e W2 ⟨rfl, l2⟩
    have HB2 := Lib.hid (HB.out.trans (l2.mono HB.out.size))
    have HT2 := Lib.hid (HT.out.below l2)
    clear l2 hx HT
    have hx := HT2.out.cell
    go_wp2_with fail
    refine (HU.out _ HT2.out.row).mono ?_
    rintro e W3 ⟨a', n', c', rfl, hs3, l3⟩
    have HB3 := Lib.hid (HB2.out.trans (l3.mono HB2.out.size))
    have HS3 := Lib.hid hs3
    clear hs3 l3 hx HU
    go_wp2_with fail
    refine (nodes_any _ _ _).mono ?_
    rintro e W4 ⟨rfl, hW4⟩
    have l4 : Below W3.heap.size W3 W4 := by rw [hW4]; exact (Below.refl _ _).alloc (Nat.le_refl _) _
    have hk4 : W4.heap[W3.heap.size]? = some (.cells #[.int .i64 (k : Int), .slice a' n' c'] 60 (0, 0)) := by rw [hW4]; exact heap_alloc_new W3 _
    have HB4 := Lib.hid (HB3.out.trans (l4.mono HB3.out.size))
    have HS4 := Lib.hid (HC.out W3.heap.size W4 (HQ.out W3.heap.size _ _ W4 hk4 (HS3.out.tk (Tk.below l4))))
    clear hW4 l4 hk4 HC HQ
    go_wp2_with fail
    refine HS4.out.mono ?_
    rintro e W5 ⟨u, rfl, o5, l5⟩
    have HB5 := Lib.hid (HB4.out.trans (l5.mono HB4.out.size))
    have HO5 := Lib.hid (own_base o5 HB4.out.size)
    clear o5 l5 HS4
    go_wp2_with fail
    go_ret2
    exact ⟨_, rfl, HO5.out, HB5.out⟩
end Go.Proofs.Ytejdphfcogfcmaa
