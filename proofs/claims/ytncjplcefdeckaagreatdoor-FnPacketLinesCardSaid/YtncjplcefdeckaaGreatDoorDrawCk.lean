/-
  The draws of lines, of repairs and of lists of octets.
-/
import Derived.Test.YtncjplcefdeckaaGreatDoorDrawPkt
import Derived.Test.YtncjplcefdeckaaGreatDoorDrawDec
import Derived.Test.YtncjplcefdeckaaGreatDoorPktR
namespace Go.Proofs.YtncjplcefdeckaaGreatDoor
open Go.RowKit Go.Lib Go.Joins
set_option linter.unusedVariables false

set_option maxHeartbeats 1000000 in
theorem drawPacketLine_any (v : Value) (z : List Int) (w : World) (hrow : Row w v z.length (z.map (Value.int .u8))) (hz : ∀ x ∈ z, 0 ≤ x ∧ x < 256) :
    Calls Tryz.prog 5 #[v] w fun e w' => ∃ (k n t l : Int) (d : ByteArray), d.size ≤ 9 ∧ e = .returned (pv k n t l d) ∧ Below w.heap.size w w' := by
  have HA := Lib.hid ((Below.refl w.heap.size w).alloc (Nat.le_refl _) (.cells #[.int .i64 0, .int .i64 0, .int .i64 0, .int .i64 0, .string ⟨#[]⟩] 25))
  have HC := Lib.hid (drawValid_any v z _ (hrow.below HA.out (Nat.le_refl _)) hz)
  have HR0 := Lib.hid (heap_new1 w 0 0 0 0 ⟨#[]⟩)
  obtain ⟨a0, cap0, rfl, x1, x2, x3⟩ := row_open hrow
  clear x1 x2 x3
  clear hrow hz
  go_enter Tryz.func5, Tryz.ntmps5
  go_wp2_with fail
  refine HC.out.mono ?_
  rintro e w2 ⟨k, n, t, l, d, hd, rfl, l2⟩
  have HR2 := Lib.hid (HR0.out.below l2 HR0.out.lt)
  have HB2 := Lib.hid (HA.out.trans (l2.mono HA.out.size))
  clear HR0 HA HC l2
  unfold pv
  obtain ⟨r0, r1, r2, r3, r4⟩ := HR2.out.cells
  have f0 := HR2.out.free 0
  have f1 := HR2.out.free 1
  have f2 := HR2.out.free 2
  have f3 := HR2.out.free 3
  have f4 := HR2.out.free 4
  go_wp2_with fail
  obtain ⟨hp1, hg1⟩ := HR2.out.store (k' := k) (n' := n) (t' := t) (l' := l) (d' := d)
  refine bodyPost_ret (results_pkt1 rfl _ _ w.heap.size rfl hp1) rfl ⟨k, n, t, l, d, hd, rfl, ?_⟩
  exact HB2.out.grown hg1 HB2.out.size (fun k hk => by have e : w.heap.size = k := Option.some.inj hk; omega)
def ckL : List Int := [-1, 255, 256]
theorem ckL_bd : ∀ x ∈ ckL, -1 ≤ x ∧ x ≤ 65536 := by
  intro x hx
  simp only [ckL, List.mem_cons, List.not_mem_nil, or_false] at hx
  omega
set_option maxRecDepth 100000 in
set_option maxHeartbeats 4000000 in
theorem drawCheck_any (v : Value) (z : List Int) (w : World) (hrow : Row w v z.length (z.map (Value.int .u8))) (hz : ∀ x ∈ z, 0 ≤ x ∧ x < 256) :
    Calls Tryz.prog 14 #[v] w fun e w' => ∃ (g c : Nat) (zs : List Int), e = .returned (.slice (some ⟨g, 0, none⟩) zs.length c) ∧ zs.length ≤ 41 ∧ w'.ownsRow w.heap.size 3 1 (.slice (some ⟨g, 0, none⟩) zs.length c) zs.length (zs.map (Value.int .i64)) ∧ Below w.heap.size w w' := by
  obtain ⟨i0, hi, hz0, hz1, hz2⟩ := info_parts infoInt
  have hc0 := cu_new w v z hrow hz
  have hs0 : (w.alloc (.cells #[v, .int .i64 0, .int .u64 0] 48)).heap.size = w.heap.size + 1 := by simp
  have hd0 : Drawn (w.alloc (.cells #[v, .int .i64 0, .int .u64 0] 48)) ((w.alloc (.cells #[v, .int .i64 0, .int .u64 0] 48)).alloc (.cells #[] 3)) w.heap.size z 0 (w.heap.size + 1) 0 [] := by
    have h : ((w.alloc (.cells #[v, .int .i64 0, .int .u64 0] 48)).alloc (.cells #[] 3)).ownsRow (w.alloc (.cells #[v, .int .i64 0, .int .u64 0] 48)).heap.size 3 1 (.slice (some ⟨(w.alloc (.cells #[v, .int .i64 0, .int .u64 0] 48)).heap.size, 0, none⟩) 0 0) 0 [] := World.ownsRow_made _ #[] 0 (Nat.le_refl _) (Nat.zero_le _) rfl
    rw [hs0] at h
    exact ⟨by rw [hs0]; exact h, hc0.grown (World.grownBy_alloc _ _ none), World.grownBy_alloc _ _ _, by simp, by rw [hs0]; omega⟩
  obtain ⟨W0, hW0⟩ : ∃ W0, W0 = w.alloc (.cells #[v, .int .i64 0, .int .u64 0] 48) := ⟨_, rfl⟩
  have HE0 : Hid (W0 = w.alloc (.cells #[v, .int .i64 0, .int .u64 0] 48)) := Lib.hid hW0
  rw [← hW0] at hd0 hs0
  have HD0 := Lib.hid hd0
  have HS0 := Lib.hid hs0
  have HF : Hid (∀ (w' : World) (m g c : Nat) (zs : List Int), Drawn W0 w' w.heap.size z m g c zs → w'.ownsRow w.heap.size 3 1 (.slice (some ⟨g, 0, none⟩) zs.length c) zs.length (zs.map (Value.int .i64)) ∧ Below w.heap.size w w') := Lib.hid (fun w' m g c zs h => by
    subst hW0
    refine ⟨own_base h.1 (by simp), ?_⟩
    exact ((Below.refl w.heap.size w).alloc (Nat.le_refl _) _).grown h.2.2.1 (by simp) (fun k hk => by have e : w.heap.size = k := Option.some.inj hk; omega))
  obtain ⟨a0, cap0, rfl, x1, x2, x3⟩ := row_open hrow
  clear x1 x2 x3
  clear hrow hz hd0 hs0 hc0 hW0
  go_enter Tryz.func14, Tryz.ntmps14
  go_wp2_with fail
  rw [← HE0.out]
  have hq0 : W0.heap.size = w.heap.size + 1 := HS0.out
  try rw [hq0]
  refine (pick_any w.heap.size 0 20 z _ HD0.out.2.1 (by omega) (by omega) (by omega)).mono ?_
  rintro e w2 ⟨p, hp, rfl, hc2, hg2⟩
  have HD2 := Lib.hid (HD0.out.cur hc2 hg2)
  clear hc2 hg2 HD0 HE0
  go_wp2_with fail
  go_loopw [4, 5] (fun v q wr => ∃ (k g c : Nat) (zs : List Int), zs.length + k ≤ 19 ∧ q = .int .i64 k ∧ v = .slice (some ⟨g, 0, none⟩) zs.length c ∧ Hid (Drawn W0 wr w.heap.size z (2 + 4 * zs.length) g c zs)) (fun _ q _ => (intOf q).toNat)
  case atStart => exact ⟨p, _, _, [], by simp; omega, rfl, rfl, HD2⟩
  case round =>
    clear HD2
    obtain ⟨k, g, c, zs, hk, rfl, rfl, HD⟩ := hrel
    by_cases hk0 : 0 < k
    · go_wp2_with fail
      refine (pick_any w.heap.size (2 + 4 * zs.length) 256 z _ HD.out.2.1 (by omega) (by omega) (by omega)).mono ?_
      rintro e w3 ⟨y, hy, rfl, hc3, hg3⟩
      have HD3 := Lib.hid (HD.out.cur hc3 hg3)
      have hsz := HD3.out.2.2.1.size
      clear hc3 hg3
      go_wp2_with (at_builtin; refine wpList_append_own _ rfl _ _ 35 rfl W0.heap.size 3 i0 (.int .i64 0) 1 8 Tryz.underlying35 hi hz0 hz1 hz2 rfl (by decide) _ _ _ rfl (HD3.out.1.alloc _) ⟨w3.heap.size, 0, none⟩ 1 1 [.int .i64 y] rfl rfl (cell_one_new _ _ _) (by intro u hu; simp at hu; subst hu; rfl) (by unfold maxLen; omega) (by omega) (by simp; omega) ?_; intro v' w4 hown' hgrow _)
      obtain ⟨g', c', rfl, hd4⟩ := HD3.out.app (by omega) (by omega) hown' hgrow
      have HD4 := Lib.hid hd4
      clear hown' hgrow hd4
      go_roundw
      case rel => exact ⟨k - 1, g', c', zs ++ [(y : Int)], by simp; omega, by congr 1; omega, rfl, Lib.hid (HD4.out.mono (by simp; omega))⟩
      case measure => (first | (simp [intOf]; done) | (simp [intOf]; omega))
    · obtain rfl : k = 0 := by omega
      go_wp2_with fail
      refine (pick_any w.heap.size (2 + 4 * zs.length) 16 z _ HD.out.2.1 (by omega) (by omega) (by omega)).mono ?_
      rintro e w3 ⟨b, hb, rfl, hc3, hg3⟩
      have HD3 := Lib.hid (HD.out.cur hc3 hg3)
      have hsz := HD3.out.2.2.1.size
      clear hc3 hg3
      by_cases hb0 : b = 0
      · subst hb0
        go_wp2_with fail
        refine (among_any w.heap.size (2 + 4 * zs.length + 2) z _ ckL _ (HD3.out.2.1.grown (World.grownBy_alloc _ _ none)) (by omega) (by decide) (by decide) (fun w' hg => row_fresh (xs := ckL.map (Value.int .i64)) (n := ckL.length) (List.length_map _).symm (by decide) HD3.out.2.1.lt hg)).mono ?_
        rintro e w4 ⟨x, hx, rfl, hc, hg⟩
        obtain ⟨x0, x1⟩ := ckL_bd x hx
        have HD4 := Lib.hid (HD3.out.cur hc (g_trans (World.grownBy_alloc _ _ _) hg))
        have hsz4 := HD4.out.2.2.1.size
        clear hx hc hg
        go_wp2_with (at_builtin; refine wpList_append_own _ rfl _ _ 35 rfl W0.heap.size 3 i0 (.int .i64 0) 1 8 Tryz.underlying35 hi hz0 hz1 hz2 rfl (by decide) _ _ _ rfl (HD4.out.1.alloc _) ⟨w4.heap.size, 0, none⟩ 1 1 [.int .i64 x] rfl rfl (cell_one_new _ _ _) (by intro u hu; simp at hu; subst hu; rfl) (by unfold maxLen; omega) (by omega) (by simp; omega) ?_; intro v' w5 hown' hgrow _)
        obtain ⟨g', c', rfl, hd5⟩ := HD4.out.app x0 x1 hown' hgrow
        have HD5 := Lib.hid hd5
        clear hown' hgrow hd5
        go_wp2_with fail
        go_ret
        exact ⟨g', c', zs ++ [x], rfl, by simp; omega, HF.out _ _ _ _ _ HD5.out⟩
      by_cases hb1 : b = 1
      · subst hb1
        go_wp2_with fail
        go_loopw [4] (fun v wr => ∃ (g c : Nat) (zs : List Int), zs.length ≤ 41 ∧ v = .slice (some ⟨g, 0, none⟩) zs.length c ∧ Hid (Drawn W0 wr w.heap.size z (100 + 4 * zs.length) g c zs)) (fun v _ => 41 - (match v with | .slice _ n _ => n | _ => 0))
        case atStart => exact ⟨g, c, zs, by omega, rfl, Lib.hid (HD3.out.mono (by omega))⟩
        case round =>
          clear HD3 HD hsz
          obtain ⟨g, c, zs, hzl, rfl, HD⟩ := hrel
          go_wp2_with fail
          refine (pick_any w.heap.size (100 + 4 * zs.length) 2 z _ HD.out.2.1 (by omega) (by omega) (by omega)).mono ?_
          rintro e w4 ⟨b, hb, rfl, hc4, hg4⟩
          have HD4 := Lib.hid (HD.out.cur hc4 hg4)
          have hsz4 := HD4.out.2.2.1.size
          clear hc4 hg4
          by_cases hgo : zs.length < 40 + b
          · have hg1' : (zs.length : Int) < 40 + (b : Int) := by omega
            go_wp2_with (at_builtin; refine wpList_append_own _ rfl _ _ 35 rfl W0.heap.size 3 i0 (.int .i64 0) 1 8 Tryz.underlying35 hi hz0 hz1 hz2 rfl (by decide) _ _ _ rfl (HD4.out.1.alloc _) ⟨w4.heap.size, 0, none⟩ 1 1 [.int .i64 255] rfl rfl (cell_one_new _ _ _) (by intro u hu; simp at hu; subst hu; rfl) (by unfold maxLen; omega) (by omega) (by simp; omega) ?_; intro v' w5 hown' hgrow _)
            obtain ⟨g', c', rfl, hd5⟩ := HD4.out.app (by omega) (by omega) hown' hgrow
            have HD5 := Lib.hid hd5
            clear hown' hgrow hd5
            go_roundw
            case rel => exact ⟨g', c', zs ++ [255], by simp; omega, rfl, Lib.hid (HD5.out.mono (by simp; omega))⟩
            case measure => (first | (simp; done) | (simp; omega))
          · have hg1' : ¬ (zs.length : Int) < 40 + (b : Int) := by omega
            go_wp2_with fail
            go_ret
            exact ⟨g, c, zs, rfl, hzl, HF.out _ _ _ _ _ HD4.out⟩
      · have e0 : ¬ (b : Int) = 0 := by omega
        have e1 : ¬ (b : Int) = 1 := by omega
        clear hb0 hb1
        go_wp2_with fail
        go_ret
        exact ⟨g, c, zs, rfl, by omega, HF.out _ _ _ _ _ HD3.out⟩
theorem results_cell_tmp2 {fn : Func} {p u v : Tmp} {ty : TypeId} (h : fn.results = #[.cell p ty, .tmp u, .tmp v]) (tmps : Array Value) (P : Program) (w : World) :
    (results fn tmps).run P w =
      ((asAddr (tmps.getD p undef)).run P w).andThen fun a w₁ => ((loadVar ty a).run P w₁).andThen fun x w₂ => .ok (.tuple #[x, tmps.getD u undef, tmps.getD v undef]) w₂ := by
  simp only [results, h]
  simp [Sem.run_bind, Result.andThen]
theorem results_pkt2 {fn : Func} {p u v : Tmp} (h : fn.results = #[.cell p 25, .tmp u, .tmp v]) (tmps : Array Value) (w : World) (g : Nat) {k n t l : Int} {d : ByteArray} (hp : tmps.getD p undef = .pointer (some ⟨g, 0, none⟩)) {a b : Value} (hu : tmps.getD u undef = a) (hv : tmps.getD v undef = b) (hg : Pb w g k n t l d) :
    (results fn tmps).run Tryz.prog w = .ok (.tuple #[pv k n t l d, a, b]) w := by
  rw [results_cell_tmp2 h, hu, hv]
  have hp' : tmps[p]?.getD undef = .pointer (some ⟨g, 0, none⟩) := by simpa using hp
  simp [asAddr, hp', Result.andThen, run_loadVar_row w g 25 25 _ _ _ hg Tryz.underlying25 (by rfl) (by kernel_rfl)]
  rfl
set_option maxRecDepth 100000 in
set_option maxHeartbeats 4000000 in
theorem drawRepair_any (v : Value) (z : List Int) (w : World) (hrow : Row w v z.length (z.map (Value.int .u8))) (hz : ∀ x ∈ z, 0 ≤ x ∧ x < 256) :
    Calls Tryz.prog 11 #[v] w fun e w' => ∃ (k n t l : Int) (d : ByteArray) (tr le : Int), d.size ≤ 9 ∧ e = .returned (.tuple #[pv k n t l d, .int .i64 tr, .int .i64 le]) ∧ Below w.heap.size w w' := by
  have HA := Lib.hid ((Below.refl w.heap.size w).alloc (Nat.le_refl _) (.cells #[.int .i64 0, .int .i64 0, .int .i64 0, .int .i64 0, .string ⟨#[]⟩] 25))
  have HC0 := Lib.hid (cu_new _ v z (hrow.below HA.out (Nat.le_refl _)) hz)
  have HR0 : Hid (Pb ((w.alloc (.cells #[.int .i64 0, .int .i64 0, .int .i64 0, .int .i64 0, .string ⟨#[]⟩] 25)).alloc (.cells #[v, .int .i64 0, .int .u64 0] 48)) w.heap.size 0 0 0 0 ⟨#[]⟩) := Lib.hid ((heap_new1 w 0 0 0 0 ⟨#[]⟩).below ((Below.refl _ _).alloc (Nat.le_refl _) _) (by simp))
  have HB0 : Hid (Below w.heap.size w ((w.alloc (.cells #[.int .i64 0, .int .i64 0, .int .i64 0, .int .i64 0, .string ⟨#[]⟩] 25)).alloc (.cells #[v, .int .i64 0, .int .u64 0] 48))) := Lib.hid (HA.out.alloc HA.out.size _)
  obtain ⟨B, hB⟩ : ∃ B, B = (w.alloc (.cells #[.int .i64 0, .int .i64 0, .int .i64 0, .int .i64 0, .string ⟨#[]⟩] 25)).heap.size := ⟨_, rfl⟩
  have hBw : B = w.heap.size + 1 := by rw [hB]; simp
  rw [← hB] at HC0
  obtain ⟨a0, cap0, rfl, x1, x2, x3⟩ := row_open hrow
  clear x1 x2 x3
  clear hrow hz HA hB
  obtain ⟨W0, hW0⟩ : ∃ W0, W0 = (w.alloc (.cells #[.int .i64 0, .int .i64 0, .int .i64 0, .int .i64 0, .string ⟨#[]⟩] 25)).alloc (.cells #[.slice a0 z.length cap0, .int .i64 0, .int .u64 0] 48) := ⟨_, rfl⟩
  have hs0 : W0.heap.size = w.heap.size + 2 := by rw [hW0]; simp
  rw [← hW0] at HC0 HR0 HB0
  have HW0 := Lib.hid hW0
  clear hW0
  subst hBw
  have HS0 := Lib.hid hs0
  clear hs0
  go_enter Tryz.func11, Tryz.ntmps11
  go_wp2_with fail
  rw [← HW0.out]
  refine (anyPacket_any _ 0 z _ HC0.out (by omega)).mono ?_
  rintro e w2 ⟨k, n, t, l, d, hd, rfl, hc, hg⟩
  have hbs : w.heap.size + 1 < W0.heap.size := by have := HS0.out; omega
  have HR2 := Lib.hid (HR0.out.gr hg (by omega))
  have HQ3 := Lib.hid (PC.new hc hg hbs k n t l d)
  clear hc hg HR0 HC0 HW0
  unfold pv
  obtain ⟨W3, hW3⟩ : ∃ W3, W3 = w2.alloc (.cells #[.int .i64 k, .int .i64 n, .int .i64 t, .int .i64 l, .string d] 25) := ⟨_, rfl⟩
  have HR3 : Hid (Pb W3 w.heap.size 0 0 0 0 ⟨#[]⟩) := Lib.hid (by rw [hW3]; exact (heap_alloc_old _ _ HR2.out.lt).trans HR2.out)
  have hqs : W0.heap.size ≤ w2.heap.size := HQ3.out.lo
  obtain ⟨q, hq⟩ : ∃ q, q = w2.heap.size := ⟨_, rfl⟩
  rw [← hW3, ← hq] at HQ3
  rw [← hq] at hqs
  clear HR2
  have hm9 : d.size ≤ maxLen := by unfold maxLen; omega
  have HV := Lib.hid (fun w => l4Good_any k n t l d w hm9)
  clear hm9
  unfold pv at HV
  go_upto_region 3 with fail
  rw [← hW3, ← hq]
  clear hW3 hq
  go_cut [18] from 13 to 18 (fun v wx => ∃ b : Bool, v = .bool b ∧ Hid (PC W0 wx (w.heap.size + 1) z 40 q k n t l d) ∧ Hid (Pb wx w.heap.size 0 0 0 0 ⟨#[]⟩))
  case first => as_aux_lemma =>
    obtain ⟨q0, q1, q2, q3, q4⟩ := HQ3.out.pb.cells
    go_wp2_with fail
    refine (HV.out _).mono ?_
    rintro e w4 ⟨rfl, l4⟩
    have HQ4 := Lib.hid (HQ3.out.call (HQ3.out.cu.below l4) (g_below (g_refl _ _) l4))
    have HR4 := Lib.hid (HR3.out.below l4 HR3.out.lt)
    clear l4 HQ3 HR3 q0 q1 q2 q3 q4
    cases pktOk k n t l d with
    | false =>
      go_wp2_with fail
      go_meet
      case rel => exact ⟨false, rfl, Lib.hid (HQ4.out.call (HQ4.out.cu.mono (by omega)) (g_refl _ _)), HR4⟩
    | true =>
      go_wp2_with fail
      refine (one_any (w.heap.size + 1) (0 + 32) 2 z _ HQ4.out.cu (by omega) (by omega) (by omega)).mono ?_
      rintro e w5 ⟨b, rfl, hc, hg⟩
      have HQ5 := Lib.hid (HQ4.out.call hc hg)
      have HR5 := Lib.hid (HR4.out.gr hg (by omega))
      clear hc hg HQ4 HR4
      go_wp2_with fail
      go_meet
      case rel => exact ⟨b, rfl, Lib.hid (HQ5.out.call (HQ5.out.cu.mono (by omega)) (g_refl _ _)), HR5⟩
  case rest => as_aux_lemma =>
   obtain ⟨b, rfl, HQ3, HR3⟩ := hcut
   clear HV
   go_upto_if 18 with fail
   go_cut [] from 19 to 19 (fun wx => ∃ k' : Int, Hid (PC W0 wx (w.heap.size + 1) z 40 q k' n t l d) ∧ Hid (Pb wx w.heap.size 0 0 0 0 ⟨#[]⟩))
   case first => as_aux_lemma =>
    cases b with
    | false =>
      go_wp2_with fail
      go_meet
      case rel => exact ⟨k, HQ3, HR3⟩
    | true =>
      have f0 := HQ3.out.pb.free 0
      obtain ⟨q0, q1, q2, q3, q4⟩ := HQ3.out.pb.cells
      go_wp2_with fail
      obtain ⟨a5, b5⟩ := Pb.set (i := 0) HQ3.out.pb (.int .i64 1)
      have HQ6 := Lib.hid (HQ3.out.set (show Pb _ q 1 n t l d by unfold Pb; rw [a5]; rfl) b5)
      have HR6 := Lib.hid (HR3.out.gr b5 (by omega))
      clear a5 b5 q0 q1 q2 q3 q4 f0
      go_meet
      case rel => exact ⟨1, HQ6, HR6⟩
   case rest => as_aux_lemma =>
    obtain ⟨k', HQ, HR⟩ := hcut
    clear HQ3 HR3
    go_wp2_with fail
    refine (anySerial_any (w.heap.size + 1) 40 z _ HQ.out.cu (by omega)).mono ?_
    rintro e w4 ⟨tr, tr0, tr1, rfl, hc, hg⟩
    have HQ4 := Lib.hid (HQ.out.call hc hg)
    have HR4 := Lib.hid (HR.out.gr hg (by omega))
    clear hc hg HQ HR
    have S0 := HQ4.out.pb.cells
    have HQd := Lib.hid HQ4.out.drew
    have S0d := HQd.out.pb.cells
    go_upto_region 6 with fail
    go_region_held3 (fun w' => w'.cell? ⟨q, 0, none⟩ = some (.int .i64 k') ∧ w'.cell? ⟨q, 1, none⟩ = some (.int .i64 n) ∧ w'.cell? ⟨q, 2, none⟩ = some (.int .i64 t) ∧ w'.cell? ⟨q, 3, none⟩ = some (.int .i64 l) ∧ w'.cell? ⟨q, 4, none⟩ = some (.string d))
      ((first | (with_reducible exact S0) | (with_reducible exact S0d) | (with_reducible exact hcl) | (with_reducible exact hcs)))
      ((go_at_call 29; refine (anySerial_any (w.heap.size + 1) 46 z _ HQd.out.cu (by omega)).mono ?_; rintro e w6 ⟨le, le0, le1, rfl, hc, hg⟩; have HQ6 := HQd.out.call hc hg; have HR6 := Pb.gr (w := w4.drew) HR4.out hg (by omega); have hcl := HQ6.pb.cells; obtain ⟨hp1, hg1⟩ := HR6.store (k' := k') (n' := n) (t' := t) (l' := l) (d' := d); have hcs := (HQ6.pb.gr hg1 (by omega)).cells; have f0 := HR6.free 0; have f1 := HR6.free 1; have f2 := HR6.free 2; have f3 := HR6.free 3; have f4 := HR6.free 4; obtain ⟨r0, r1, r2, r3, r4⟩ := HR6.cells))
    all_goals go_wp2_with fail
    all_goals
      refine bodyPost_ret (results_pkt2 rfl _ _ w.heap.size rfl rfl rfl hp1) rfl ⟨k', n, t, l, d, tr, le, hd, rfl, ?_⟩
      exact (HB0.out.trans (gbelow HQ6.gr (by have := HS0.out; omega) (by omega))).grown hg1 (by have := (HB0.out.trans (gbelow HQ6.gr (by have := HS0.out; omega) (by omega))).size; exact this) (fun k hk => by have e : w.heap.size = k := Option.some.inj hk; omega)
end Go.Proofs.YtncjplcefdeckaaGreatDoor
