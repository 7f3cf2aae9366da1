/-
  Sets as ranges: the program's merged ranges.
-/
import Derived.Test.YtneimcacpbepfaaConcat
namespace Go.Proofs.Ytneimcacpbepfaa
open Go.RowKit Go.Lib Go.Joins
set_option linter.unusedVariables false

/-- What the walk that merges has: the list drawn up, the sorted one apart from it. -/
structure MrgS (W0 wr : World) (v : Value) (acc : List Rg) (u : Value) (L : List Rg) : Prop where
  out : OutS W0 wr v acc
  src : wr.ownsRow W0.heap.size 58 2 u L.length (rgF L)
  ne : ∀ k, u.ownBlock = some k → v.ownBlock ≠ some k
theorem MrgS.below {W0 wr w1 : World} {v u : Value} {acc L : List Rg} (h : MrgS W0 wr v acc u L) (l : Below wr.heap.size wr w1) : MrgS W0 w1 v acc u L :=
  ⟨h.out.below l, ownz_below h.src l (Nat.le_refl _), h.ne⟩
theorem MrgS.alloc {W0 wr : World} {v u : Value} {acc L : List Rg} (h : MrgS W0 wr v acc u L) (o : Obj) : MrgS W0 (wr.alloc o) v acc u L := h.below ((Below.refl _ _).alloc (Nat.le_refl _) o)
theorem MrgS.drewN {W0 wr : World} {v u : Value} {acc L : List Rg} (h : MrgS W0 wr v acc u L) (n : Nat) : MrgS W0 (wr.drewN n) v acc u L := h.below (bdrew wr n)
theorem MrgS.app {W0 wr w1 : World} {v v' u : Value} {acc acc5 L : List Rg} {p q : Int} (h : MrgS W0 wr v acc u L) (hz : acc5 = acc ++ [(p, q)]) (ho : w1.ownsRow W0.heap.size 58 2 v' (acc.length + 1) (rgF acc ++ [.int .i64 p, .int .i64 q])) (hg : wr.grownBy w1 v.ownBlock) (hb : v'.ownBlock = v.ownBlock ∨ v'.ownBlock = some wr.heap.size) :
    ∃ g c, v' = .slice (some ⟨g, 0, none⟩) acc5.length c ∧ MrgS W0 w1 (.slice (some ⟨g, 0, none⟩) acc5.length c) acc5 u L := by
  have h0 := h
  obtain ⟨g, c, rfl, ho2⟩ := h.out.app hz ho hg
  refine ⟨g, c, rfl, ho2, ownz_apart h.src hg h.ne, fun k hk => ?_⟩
  rcases hb with hb | hb
  · rw [hb]; exact h0.ne k hk
  · rw [hb]
    intro e
    have := (h0.src.lt k hk).2
    have e2 := Option.some.inj e
    omega
theorem rgF_last (pre : List Rg) (l : Rg) (M : Int) : (rgF (pre ++ [l])).set (pre.length * 2 + 1) (.int .i64 M) = rgF (pre ++ [(l.1, M)]) := by
  have hl := rgF_len pre
  unfold rgF at hl ⊢
  rw [flat_append, flat_append, flat_one, flat_one, List.set_append_right _ _ (by omega), hl, show pre.length * 2 + 1 - pre.length * 2 = 1 by omega]
  rfl
theorem MrgS.put {W0 wr : World} {u : Value} {pre L acc acc5 : List Rg} {l : Rg} {g c m : Nat} {M : Int} (h : MrgS W0 wr (.slice (some ⟨g, 0, none⟩) m c) acc u L) (hm : m = acc.length) (ha : acc = pre ++ [l]) (h5 : acc5 = pre ++ [(l.1, M)]) {p : Nat} (hp : p = pre.length) :
    MrgS W0 (wr.setCell ⟨g, p * 2 + 1, none⟩ (.int .i64 M)) (.slice (some ⟨g, 0, none⟩) m c) acc5 u L ∧ acc5.length = m := by
  subst ha; subst hm; subst h5; subst hp
  have hs := ownz_set h.out.own (j := pre.length * 2 + 1) (.int .i64 M)
  rw [rgF_last] at hs
  have e : (pre ++ [(l.1, M)]).length = (pre ++ [l]).length := by simp
  refine ⟨⟨⟨?_, ?_⟩, ownz_apart h.src (v2 := .slice (some ⟨g, 0, none⟩) (pre ++ [l]).length c) hs.2 h.ne, h.ne⟩, e⟩
  · rw [e]; exact hs.1
  · exact h.out.bel.grown hs.2 h.out.bel.size (fun k hk => by have e2 : g = k := Option.some.inj hk; have := (h.out.own.lt g rfl).1; omega)
theorem MrgS.last {W0 wr : World} {u : Value} {pre L acc : List Rg} {l : Rg} {g c m : Nat} (h : MrgS W0 wr (.slice (some ⟨g, 0, none⟩) m c) acc u L) (hm : m = acc.length) (ha : acc = pre ++ [l]) {p : Nat} (hp : p = pre.length) :
    wr.cell? ⟨g, p * 2 + 1, none⟩ = some (.int .i64 l.2) ∧ wr.frozen? ⟨g, p * 2 + 1, none⟩ = false ∧ g < wr.heap.size := by
  subst ha; subst hm; subst hp
  have hr : (pre ++ [l])[pre.length]? = some l := by simp
  obtain ⟨c0, c1, f0, f1, hg⟩ := ownR_facts h.out.own hr
  exact ⟨c1, f1, hg⟩
theorem ok_put {pre : List Rg} {l : Rg} {t : Int} (h : ∀ r ∈ pre ++ [l], 0 ≤ r.2 ∧ r.2 ≤ 65535) (h0 : 0 ≤ t) (h1 : t ≤ 65535) : ∀ r ∈ pre ++ [(l.1, max l.2 t)], 0 ≤ r.2 ∧ r.2 ≤ 65535 := by
  intro r hr
  rcases List.mem_append.1 hr with hr | hr
  · exact h r (List.mem_append.2 (.inl hr))
  · have := h l (by simp)
    simp at hr; subst hr
    show 0 ≤ max l.2 t ∧ max l.2 t ≤ 65535
    omega
theorem ok_app {acc : List Rg} {f t : Int} (h : ∀ r ∈ acc, 0 ≤ r.2 ∧ r.2 ≤ 65535) (h0 : 0 ≤ t) (h1 : t ≤ 65535) : ∀ r ∈ acc ++ [(f, t)], 0 ≤ r.2 ∧ r.2 ≤ 65535 := by
  intro r hr
  rcases List.mem_append.1 hr with hr | hr
  · exact h r hr
  · simp at hr; subst hr; exact ⟨h0, h1⟩
set_option maxRecDepth 100000 in
set_option maxHeartbeats 4000000 in
theorem merged_any (B : Nat) (v : Value) (xs : List Rg) (w : World) (hown : w.ownsRow B 58 2 v xs.length (rgF xs)) (hn2 : xs.length ≤ 20) (hv : ∀ r ∈ xs, 0 ≤ r.1 ∧ r.1 ≤ r.2 ∧ r.2 ≤ 65535) :
    Calls Try.prog 61 #[v] w fun e w' => ∃ v', e = .returned v' ∧ w'.ownsRow w.heap.size 58 2 v' (mrgG (sortG ltR xs)).length (rgF (mrgG (sortG ltR xs))) ∧ Below w.heap.size w w' := by
  obtain ⟨i0, hi, hz0, hz1, hz2⟩ := info_parts infoRg
  have HSt := Lib.hid (OutS.start w w (Below.refl _ _))
  have HSo := Lib.hid (sortedByR_any B v xs (w.alloc (.cells #[] 58)) (ownz_below hown ((Below.refl _ _).alloc (Nat.le_refl _) _) (Nat.le_refl _)) hn2)
  have hlen := sortG_len ltR xs
  have HVs : Hid (∀ r ∈ sortG ltR xs, 0 ≤ r.1 ∧ r.1 ≤ r.2 ∧ r.2 ≤ 65535) := Lib.hid (fun r hr => hv r ((sortG_perm ltR xs).mem_iff.1 hr))
  have HE0 : Hid (((sortG ltR xs).drop 0).foldl mrgS [] = mrgG (sortG ltR xs)) := Lib.hid rfl
  generalize mrgG (sortG ltR xs) = goal at HE0 ⊢
  generalize sortG ltR xs = L at HSo hlen HVs HE0
  obtain ⟨a, cap, rfl, _, _⟩ := ownz_slice hown
  clear hown hv
  go_enter Try.func61, Try.ntmps61
  go_wp2_with fail
  refine HSo.out.mono ?_
  rintro e w1 ⟨v1, rfl, o1, l1⟩
  have hbs : (w.alloc (.cells #[] 58)).heap.size = w.heap.size + 1 := by simp
  have hM1 : MrgS w w1 (.slice (some ⟨w.heap.size, 0, none⟩) 0 0) [] v1 L := ⟨HSt.out.below l1, ownz_base o1 (by simp), fun k hk e => by
    have := (o1.lt k hk).1
    have e2 : w.heap.size = k := Option.some.inj e
    omega⟩
  have HM1 := Lib.hid hM1
  obtain ⟨a1, c1, rfl, hd1, hm1⟩ := ownz_slice o1
  unfold maxLen at hm1
  clear o1 l1 hM1 HSo hbs
  obtain ⟨n, hN⟩ : ∃ n, n = L.length := ⟨_, rfl⟩
  rw [← hN] at hd1 hlen HM1 ⊢
  have HN := Lib.hid hN
  have hn20 : n ≤ 20 := by omega
  clear hN hlen hn2
  go_wp2_with fail
  go_loopw [3, 11] (fun o i wr => ∃ (k : Nat) (az : Option Addr) (cz : Nat) (acc : List Rg), k ≤ n ∧ i = .int .i64 k ∧ o = .slice az acc.length cz ∧ acc.length ≤ k ∧ Hid (MrgS w wr (.slice az acc.length cz) acc (.slice a1 n c1) L) ∧ Hid (∀ r ∈ acc, 0 ≤ r.2 ∧ r.2 ≤ 65535) ∧ Hid ((L.drop k).foldl mrgS acc = goal)) (fun _ i _ => n - (RowKit.intOf i).toNat)
  case atStart => exact ⟨0, some ⟨w.heap.size, 0, none⟩, 0, [], Nat.zero_le _, rfl, rfl, Nat.le_refl _, HM1, Lib.hid (by simp), HE0⟩
  case round =>
    clear HM1 HE0 HSt
    obtain ⟨k, az, cz, acc, hk, rfl, rfl, hak, HM, HA, HE⟩ := hrel
    by_cases hkn : k < n
    · have hks : k < L.length := by rw [← HN.out]; exact hkn
      have hsrc := HM.out.src
      have hrow := rowz_own hsrc
      obtain ⟨a9, c9, e9, _, _, hcell⟩ := rg_open hrow
      obtain ⟨b, off, rfl, hb, hf1, ht1⟩ := hcell k hks
      rw [← HN.out] at e9
      injection e9 with e9 e10 e11
      subst e9
      clear e10 e11
      have hV := HVs.out L[k] (List.getElem_mem hks)
      have hE := HE.out
      rw [List.drop_eq_getElem_cons hks, List.foldl_cons] at hE
      obtain ⟨f, t, hu⟩ : ∃ f t, L[k] = (f, t) := ⟨_, _, rfl⟩
      rw [hu] at hf1 ht1 hV hE
      simp only at hf1 ht1 hV
      obtain ⟨f0, ft, t1⟩ := hV
      clear hu hsrc hrow hcell HE
      have HR1 : Hid (Rb (wr.alloc (.cells #[.int .i64 f, .int .i64 t] 58)) wr.heap.size f t) := Lib.hid (heap_alloc_new wr _)
      have HM2 := Lib.hid (HM.out.alloc (.cells #[.int .i64 f, .int .i64 t] 58))
      rcases List.eq_nil_or_concat acc with rfl | ⟨pre, l, hacc⟩
      · have hw : IntKind.i64.wrap (0 - 1) = -1 := by rfl
        have hlt : decide ((-1 : Int) < 0) = true := by rfl
        have HE2 : Hid ((L.drop (k + 1)).foldl mrgS ([] ++ [(f, t)]) = goal) := Lib.hid hE
        have HV2 := Lib.hid (ok_app (f := f) HA.out (by omega) t1)
        clear hE
        go_upto_region 6 with fail
        go_quiet (fail)
        obtain ⟨W6, hW6⟩ : ∃ W6, W6 = (wr.alloc (.cells #[.int .i64 f, .int .i64 t] 58)).drewN nq := ⟨_, rfl⟩
        have HM6 : Hid (MrgS w W6 (.slice az ([] : List Rg).length cz) [] (.slice (some ⟨b, off, none⟩) n c1) L) := Lib.hid (by rw [hW6]; exact HM2.out.drewN nq)
        have HR6 : Hid (Rb W6 wr.heap.size f t) := Lib.hid (by rw [hW6]; exact HR1.out)
        rw [← hW6]
        clear hW6 HM2 HR1
        have HM7 := Lib.hid (HM6.out.alloc (.cells #[.int .i64 f, .int .i64 t] 58))
        have HW := Lib.hid (row_new2 W6 f t)
        obtain ⟨x0, x1⟩ := HR6.out.cells
        go_wp2_with (at_builtin; refine wpList_append_own_at _ rfl _ _ 24 rfl w.heap.size 58 i0 (.agg #[.int .i64 0, .int .i64 0]) 2 16 Try.underlying24 hi hz0 hz1 hz2 rfl (by decide) _ 0 (rgF []) rfl HM7.out.out.own ⟨W6.heap.size, 0, none⟩ 1 1 [.int .i64 f, .int .i64 t] (by first | rfl | simp) rfl (row_news HW.out) (two_one _ _) (by unfold maxLen; omega) (by omega) HM7.out.out.bel.size ?_; intro v' w4 hown' hgrow _ hblk; obtain ⟨acc5, hz5⟩ : ∃ z, z = [] ++ [(f, t)] := ⟨_, rfl⟩; obtain ⟨g5, c5, rfl, hs5⟩ := HM7.out.app hz5 hown' hgrow hblk; have HS5 := Lib.hid hs5; have HZ5 := Lib.hid hz5; clear hown' hgrow hs5 hz5 hblk)
        go_roundw
        case rel => exact ⟨k + 1, _, c5, acc5, by omega, by go_num, rfl, by rw [HZ5.out]; simp, HS5, Lib.hid (by rw [HZ5.out]; exact HV2.out), Lib.hid (by rw [HZ5.out]; exact HE2.out)⟩
        case measure => (simp [RowKit.intOf]; omega)
      · rw [List.concat_eq_append] at hacc
        obtain ⟨p, hp⟩ : ∃ p, p = pre.length := ⟨_, rfl⟩
        have hlen5 : acc.length = p + 1 := by rw [hacc, hp]; simp
        have hlq := HA.out l (by rw [hacc]; simp)
        obtain ⟨g, hg⟩ : ∃ g, az = some ⟨g, 0, none⟩ := by
          obtain ⟨g, c, e⟩ := ownz_form HM.out.out.own (by omega)
          injection e with e _ _
          exact ⟨g, e⟩
        subst hg
        obtain ⟨q, hq⟩ : ∃ q, q = l.2 := ⟨_, rfl⟩
        have hfold : mrgS acc (f, t) = if q + 1 < f then acc ++ [(f, t)] else pre ++ [(l.1, max q t)] := by
          rw [hacc, hq, mrgS_snoc]
        rw [← hq] at hlq
        obtain ⟨q0, q1⟩ := hlq
        have HAcc := Lib.hid hacc
        have HQ := Lib.hid hq
        have HP := Lib.hid hp
        have HL5 := Lib.hid hlen5
        have hw : IntKind.i64.wrap ((acc.length : Int) - 1) = (p : Int) := (IntWalk.i64_in _ (by omega)).trans (by omega)
        have hpl : (p : Int) < (acc.length : Int) := by omega
        have hd1 : decide ((p : Int) < 0) = false := decide_eq_false (by omega)
        have hwq : IntKind.i64.wrap (q + 1) = q + 1 := IntWalk.i64_in _ (by omega)
        obtain ⟨W5, hW5⟩ : ∃ W5, W5 = wr.alloc (.cells #[.int .i64 f, .int .i64 t] 58) := ⟨_, rfl⟩
        have HM5 : Hid (MrgS w W5 (.slice (some ⟨g, 0, none⟩) acc.length cz) acc (.slice (some ⟨b, off, none⟩) n c1) L) := Lib.hid (by rw [hW5]; exact HM2.out)
        have HR5 : Hid (Rb W5 wr.heap.size f t) := Lib.hid (by rw [hW5]; exact HR1.out)
        obtain ⟨cl, fl, hgl⟩ := HM5.out.last rfl HAcc.out HP.out
        rw [← HQ.out] at cl
        obtain ⟨x0, x1⟩ := HR5.out.cells
        by_cases hlt : q + 1 < f
        · have hd3 : decide (q + 1 < f) = true := decide_eq_true hlt
          rw [hfold, if_pos hlt] at hE
          have HE2 := Lib.hid hE
          have HV2 := Lib.hid (ok_app (f := f) HA.out (by omega) t1)
          clear hE hfold hacc hq hp hlen5 HM2 HR1
          go_upto_region 6 with fail
          rw [← hW5]
          clear hW5
          go_quiet (fail)
          obtain ⟨W6, hW6⟩ : ∃ W6, W6 = W5.drewN nq := ⟨_, rfl⟩
          have HM6 : Hid (MrgS w W6 (.slice (some ⟨g, 0, none⟩) acc.length cz) acc (.slice (some ⟨b, off, none⟩) n c1) L) := Lib.hid (by rw [hW6]; exact HM5.out.drewN nq)
          have HR6 : Hid (Rb W6 wr.heap.size f t) := Lib.hid (by rw [hW6]; exact HR5.out)
          rw [← hW6]
          clear hW6 x0 x1 cl fl HM5 HR5
          have HM7 := Lib.hid (HM6.out.alloc (.cells #[.int .i64 f, .int .i64 t] 58))
          have HW := Lib.hid (row_new2 W6 f t)
          obtain ⟨x0, x1⟩ := HR6.out.cells
          go_wp2_with (at_builtin; refine wpList_append_own_at _ rfl _ _ 24 rfl w.heap.size 58 i0 (.agg #[.int .i64 0, .int .i64 0]) 2 16 Try.underlying24 hi hz0 hz1 hz2 rfl (by decide) _ acc.length (rgF acc) rfl HM7.out.out.own ⟨W6.heap.size, 0, none⟩ 1 1 [.int .i64 f, .int .i64 t] (by first | rfl | simp) rfl (row_news HW.out) (two_one _ _) (by unfold maxLen; omega) (by omega) HM7.out.out.bel.size ?_; intro v' w4 hown' hgrow _ hblk; obtain ⟨acc5, hz5⟩ : ∃ z, z = acc ++ [(f, t)] := ⟨_, rfl⟩; obtain ⟨g5, c5, rfl, hs5⟩ := HM7.out.app hz5 hown' hgrow hblk; have HS5 := Lib.hid hs5; have HZ5 := Lib.hid hz5; clear hown' hgrow hs5 hz5 hblk)
          go_roundw
          case rel => exact ⟨k + 1, _, c5, acc5, by omega, by go_num, rfl, by rw [HZ5.out]; simp; omega, HS5, Lib.hid (by rw [HZ5.out]; exact HV2.out), Lib.hid (by rw [HZ5.out]; exact HE2.out)⟩
          case measure => (simp [RowKit.intOf]; omega)
        · have hd3 : decide (q + 1 < f) = false := decide_eq_false hlt
          rw [hfold, if_neg hlt] at hE
          obtain ⟨M, hM⟩ : ∃ M, M = max q t := ⟨_, rfl⟩
          rw [← hM] at hE
          have HE2 := Lib.hid hE
          have HMx := Lib.hid hM
          have HV2 : Hid (∀ r ∈ pre ++ [(l.1, M)], 0 ≤ r.2 ∧ r.2 ≤ 65535) := Lib.hid (by rw [hM, hq]; exact ok_put (by rw [← hacc]; exact HA.out) (by omega) t1)
          clear hE hfold hacc hq hp hlen5 HM2 HR1 hM
          go_upto_region 6 with fail
          rw [← hW5]
          clear hW5
          go_quiet (fail)
          obtain ⟨W6, hW6⟩ : ∃ W6, W6 = W5.drewN nq := ⟨_, rfl⟩
          have HM6 : Hid (MrgS w W6 (.slice (some ⟨g, 0, none⟩) acc.length cz) acc (.slice (some ⟨b, off, none⟩) n c1) L) := Lib.hid (by rw [hW6]; exact HM5.out.drewN nq)
          have HR6 : Hid (Rb W6 wr.heap.size f t) := Lib.hid (by rw [hW6]; exact HR5.out)
          rw [← hW6]
          clear hW6 x0 x1 cl fl HM5 HR5 hgl
          obtain ⟨x0, x1⟩ := HR6.out.cells
          obtain ⟨cl, fl, hgl⟩ := HM6.out.last rfl HAcc.out HP.out
          rw [← HQ.out] at cl
          go_upto_region 8 with fail
          obtain ⟨acc5, hz5⟩ : ∃ z, z = pre ++ [(l.1, max q t)] := ⟨_, rfl⟩
          obtain ⟨hp1, hp2⟩ := HM6.out.put (M := max q t) (acc5 := acc5) rfl HAcc.out hz5 HP.out
          rw [← hp2] at hp1
          have HS5 := Lib.hid hp1
          have HL6 := Lib.hid hp2
          rw [HMx.out, ← hz5] at HE2 HV2
          clear hz5 hp1 hp2
          go_big_region
          clear x0 x1 cl fl hgl
          go_wp2_with fail
          go_roundw
          case rel => exact ⟨k + 1, some ⟨g, 0, none⟩, cz, acc5, by omega, by go_num, by rw [HL6.out], by have := HL6.out; omega, Lib.hid (HS5.out.drewN 1), HV2, HE2⟩
          case measure => (simp [RowKit.intOf]; omega)
    · obtain rfl : k = n := by omega
      have hE := HE.out
      rw [List.drop_of_length_le (by rw [← HN.out]; exact Nat.le_refl _)] at hE
      have HE2 : Hid (acc = goal) := Lib.hid hE
      clear hE HE
      go_wp2_with fail
      go_ret
      exact ⟨_, rfl, by rw [← HE2.out]; exact HM.out.out.own, HM.out.out.bel⟩
end Go.Proofs.Ytneimcacpbepfaa
