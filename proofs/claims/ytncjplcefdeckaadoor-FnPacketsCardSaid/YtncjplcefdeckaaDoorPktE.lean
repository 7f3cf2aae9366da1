/-
  Packets: 'EncodePacket' of both packages.
-/
import Derived.Test.YtncjplcefdeckaaDoorPktO
import Derived.Deep.RegionHeld3
namespace Go.Proofs.YtncjplcefdeckaaDoor
open Go.RowKit Go.Lib Go.Joins
set_option linter.unusedVariables false

/-- The text as which a packet is sent, or the empty one. -/
def encV (k n t l : Int) (d : ByteArray) : ByteArray := ⟨(encL (octV k n t l d)).toArray⟩
theorem encV_yes {k n t l : Int} {d : ByteArray} (h : pktOk k n t l d = true) : encV k n t l d = encB k n t l d := by unfold encV encB; rw [octV_yes h]
theorem encV_no {k n t l : Int} {d : ByteArray} (h : pktOk k n t l d = false) : encV k n t l d = ⟨#[]⟩ := by unfold encV; rw [octV_no h]; rfl
theorem octV_bd (k n t l : Int) (d : ByteArray) : ∀ x ∈ octV k n t l d, 0 ≤ x ∧ x ≤ 255 := by
  cases h : pktOk k n t l d with
  | false => rw [octV_no h]; intro x hx; cases hx
  | true => rw [octV_yes h]; exact octI_bd h
theorem octV_len18 (k n t l : Int) (d : ByteArray) : (octV k n t l d).length ≤ 18 := by
  cases h : pktOk k n t l d with
  | false => rw [octV_no h]; exact Nat.zero_le _
  | true =>
    rw [octV_yes h, octI_len]
    have := (pktOk_bd h).2.2.2.2.2.2.1
    omega
set_option maxHeartbeats 1000000 in
theorem specEncode_any (k n t l : Int) (d : ByteArray) (w : World) (hd : d.size ≤ maxLen) :
    Calls Tryd.prog 11 #[pv k n t l d] w fun e w' => e = .returned (.tuple #[.string (encV k n t l d), .bool (pktOk k n t l d)]) ∧ Below w.heap.size w w' := by
  have HV := Lib.hid (fun w => l4Good_any k n t l d w hd)
  have HB0 := Lib.hid (((Below.refl w.heap.size w).alloc (Nat.le_refl _) (.cells #[.int .i64 k, .int .i64 n, .int .i64 t, .int .i64 l, .string d] 25)))
  have HP0 : Hid (Pb (w.alloc (.cells #[.int .i64 k, .int .i64 n, .int .i64 t, .int .i64 l, .string d] 25)) w.heap.size k n t l d) := Lib.hid (heap_alloc_new w _)
  cases hp : pktOk k n t l d with
  | false =>
    rw [hp] at HV
    rw [encV_no hp]
    clear hp
    unfold pv at HV ⊢
    go_enter Tryd.func11, Tryd.ntmps11
    go_wp2_with fail
    refine (HV.out _).mono ?_
    rintro e W1 ⟨rfl, lW⟩
    have HB1 := Lib.hid (HB0.out.trans (lW.mono HB0.out.size))
    go_wp2_with fail
    go_ret2
    exact ⟨rfl, HB1.out⟩
  | true =>
    rw [hp] at HV
    rw [encV_yes hp]
    have HC := Lib.hid (fun w => l4Encode_any k n t l d w hp)
    generalize encB k n t l d = es at HC
    clear hp
    unfold pv at HV HC ⊢
    go_enter Tryd.func11, Tryd.ntmps11
    go_wp2_with fail
    refine (HV.out _).mono ?_
    rintro e W1 ⟨rfl, lW⟩
    have HB1 := Lib.hid (HB0.out.trans (lW.mono HB0.out.size))
    have HP1 := Lib.hid (HP0.out.below lW HP0.out.lt)
    obtain ⟨c0, c1, c2, c3, c4⟩ := HP1.out.cells
    clear lW
    go_wp2_with fail
    refine (HC.out _).mono ?_
    rintro e W2 ⟨rfl, l2⟩
    have HB2 := Lib.hid (HB1.out.trans (l2.mono HB1.out.size))
    clear l2
    go_wp2_with fail
    go_ret2
    exact ⟨rfl, HB2.out⟩
def hexR (xs : List Int) : List Int := (encL xs).map (fun b => (b.toNat : Int))
theorem hexR_len (xs : List Int) : (hexR xs).length = 2 * xs.length := by unfold hexR; rw [List.length_map, encL_len]
theorem hexR_byt (xs : List Int) : bytI (hexR xs) = ⟨(encL xs).toArray⟩ := by
  have h := bytI_dat ⟨(encL xs).toArray⟩
  unfold datI at h
  exact h
theorem hexR_take {os : List Int} {j : Nat} (h : j < os.length) : hexR (os.take (j + 1)) = hexR (os.take j) ++ [((hexC (os[j] / 16)).toNat : Int), ((hexC (os[j] % 16)).toNat : Int)] := by
  unfold hexR
  rw [List.take_succ_eq_append_getElem h, encL_snoc, List.map_append]
  rfl
theorem row_pair8 {W : World} {g : Nat} {a b : Int} (h : W.heap[g]? = some (.cells #[.int .u8 a, .int .u8 b] 5 (0, 0))) : Row W (.slice (some ⟨g, 0, none⟩) 2 2) 2 [.int .u8 a, .int .u8 b] := by
  refine ⟨_, _, rfl, Nat.le_refl _, by unfold maxLen; omega, fun _ => ⟨g, 0, rfl, (Array.getElem?_eq_some_iff.1 h).1, fun i hi => ?_⟩⟩
  rw [Nat.zero_add, cell_of_block h]
  simp at hi
  rcases (by omega : i = 0 ∨ i = 1) with rfl | rfl <;> rfl
theorem own_hex {W : World} {B m j : Nat} {v : Value} {os : List Int} {a b : Int} (h : j < os.length) (hm : m = 2 * j) (ha : a = ((hexC (os[j] / 16)).toNat : Int)) (hb : b = ((hexC (os[j] % 16)).toNat : Int))
    (ho : W.ownsRow B 5 1 v (m + 2) ((hexR (os.take j)).map (Value.int .u8) ++ [.int .u8 a, .int .u8 b])) :
    W.ownsRow B 5 1 v (2 * (j + 1)) ((hexR (os.take (j + 1))).map (Value.int .u8)) := by
  subst ha; subst hb
  rw [hexR_take h, List.map_append, show 2 * (j + 1) = m + 2 by omega]
  exact ho
set_option maxRecDepth 100000 in
set_option maxHeartbeats 1000000 in
theorem implEncode_any (k n t l : Int) (d : ByteArray) (w : World) (hd : d.size ≤ maxLen) :
    Calls Tryd.prog 9 #[pv k n t l d] w fun e w' => e = .returned (.tuple #[.string (encV k n t l d), .bool (pktOk k n t l d)]) ∧ Below w.heap.size w w' := by
  obtain ⟨iu, hiu, hu0, hu1, hu2⟩ := info_parts infoU8
  have HO := Lib.hid (fun w => implOctets_any k n t l d w hd)
  have HB0 := Lib.hid (((Below.refl w.heap.size w).alloc (Nat.le_refl _) (.cells #[.int .i64 k, .int .i64 n, .int .i64 t, .int .i64 l, .string d] 25)))
  have hbd := octV_bd k n t l d
  have hlen := octV_len18 k n t l d
  unfold encV
  generalize octV k n t l d = os at HO hbd hlen
  generalize pktOk k n t l d = ok at HO
  have HBd := Lib.hid hbd
  clear hbd
  obtain ⟨m, hM⟩ : ∃ m, m = os.length := ⟨_, rfl⟩
  rw [← hM] at HO hlen
  have HM := Lib.hid hM
  clear hM
  obtain ⟨es, hes⟩ : ∃ es, es = encL os := ⟨_, rfl⟩
  rw [← hes]
  have HES := Lib.hid hes
  clear hes
  unfold pv at HO ⊢
  go_enter Tryd.func9, Tryd.ntmps9
  go_wp2_with fail
  refine (HO.out _).mono ?_
  rintro e W2 ⟨vo, rfl, o2, l2⟩
  have HB2 := Lib.hid (HB0.out.trans (l2.mono HB0.out.size))
  rw [HM.out] at o2
  obtain ⟨a, cap, rfl, hc1, hc2, hcell⟩ := row_open (row_own o2)
  rw [← HM.out] at hc1
  unfold maxLen at hc2
  have HC := Lib.hid hcell
  clear hcell o2 l2 HO
  rw [← HM.out]
  go_wp2_with fail
  go_loopw [6, 17] (fun o i wr => ∃ j g c : Nat, j ≤ m ∧ i = .int .i64 j ∧ o = .slice (some ⟨g, 0, none⟩) (2 * j) c ∧ Hid (wr.ownsRow W2.heap.size 5 1 (.slice (some ⟨g, 0, none⟩) (2 * j) c) (2 * j) ((hexR (os.take j)).map (Value.int .u8))) ∧ Hid (Below W2.heap.size W2 wr)) (fun _ i _ => m - (intOf i).toNat)
  case atStart => exact ⟨0, _, _, Nat.zero_le _, rfl, rfl, Lib.hid (World.ownsRow_made W2 #[] 0 (Nat.le_refl _) (Nat.zero_le _) rfl), Lib.hid ((Below.refl _ _).alloc (Nat.le_refl _) _)⟩
  case round =>
    obtain ⟨j, g, c, hj, rfl, rfl, HOj, HBj⟩ := hrel
    have hsz := HBj.out.size
    by_cases hjm : j < m
    · have hjs : j < os.length := by rw [← HM.out]; exact hjm
      obtain ⟨b, off, rfl, hb, hc⟩ := HC.out j hjs
      obtain ⟨o0, o1⟩ := HBd.out os[j] (List.getElem_mem hjs)
      obtain ⟨u, hu⟩ : ∃ u : Nat, os[j] = (u : Int) := ⟨os[j].toNat, by omega⟩
      rw [hu] at hc o0 o1
      have hcr : wr.cell? ⟨b, off + j, none⟩ = some (.int .i64 (u : Int)) := (HBj.out.cell (p := ⟨b, off + j, none⟩) hb).trans hc
      have HU := Lib.hid hu
      have hu2' : u < 256 := by omega
      clear hc hu
      have q0 : 0 ≤ (u : Int) / 16 := by omega
      have q1 : (u : Int) / 16 < 16 := by omega
      have r0 : 0 ≤ (u : Int) % 16 := by omega
      have r1 : (u : Int) % 16 < 16 := by omega
      have tq0 : ((u : Int) / 16).toNat = u / 16 := by omega
      have tr0 : ((u : Int) % 16).toNat = u % 16 := by omega
      have e1 := tmod16 u
      have e2 := tdiv16 u
      have e3 := wrap_q u hu2'
      have e4 := wrap_r u hu2'
      have q2 : u / 16 < 16 := by omega
      have r2 : u % 16 < 16 := by omega
      have hz64 : wr.heap.size = wr.heap.size := rfl
      go_wp2_with fail
      have hBj := HBj.out
      go_region_held3 (fun w' => Below W2.heap.size W2 w')
        ((repeat (first | assumption | refine Below.drew ?_ | refine below_alloc' ?_)))
        ((refine step_append_row (by rfl) _ _ _ (by rfl) W2.heap.size 5 iu (.int .u8 0) 1 Tryd.underlying22 hiu hu0 hu1 hu2 rfl _ (2 * j) _ (by rfl) (by first | exact HOj.out.alloc _ | exact (HOj.out.alloc _).drew) _ 2 2 _ (by rfl) (row_pair8 (by first | exact heap_alloc_new _ _)) rfl (by intro u hu; simp at hu; rcases hu with rfl | rfl <;> rfl) (by unfold maxLen; omega) (by omega) (below_size' (by repeat (first | assumption | refine Below.drew ?_ | refine below_alloc' ?_))) ?_; intro v1 w1 hown1 hgrow1 hat1; have hb1 : Below W2.heap.size W2 w1 := below_grown (by repeat (first | assumption | refine Below.drew ?_ | refine below_alloc' ?_)) hgrow1 (fun q hq => (HOj.out.lt q hq).1)))
      all_goals go_wp2_with fail
      all_goals
        have hv1 := own_form hown1 (by omega)
        have ho1 := own_hex hjs rfl (by rw [HU.out, dig_eq q2]; try (congr 2 <;> omega)) (by rw [HU.out, dig_eq r2]; try (congr 2 <;> omega)) hown1
        obtain ⟨g1, c1, rfl⟩ := hv1
        have HO1 := Lib.hid ho1
        have HB1 := Lib.hid hb1
        clear ho1 hown1 hgrow1 hat1 hb1
        go_roundw
        case rel => exact ⟨j + 1, g1, c1, by omega, by go_num, by first | rfl | (congr 1; omega), HO1, HB1⟩
        case measure => (first | (simp [intOf]; done) | (simp [intOf]; omega))
    · obtain rfl : j = m := by omega
      have hF : os.take j = os := by rw [HM.out, List.take_of_length_le (Nat.le_refl _)]
      have hO := HOj.out
      rw [hF] at hO
      have hcv := bytes_row hO (by rw [hexR_len, HM.out])
      rw [hexR_byt, ← HES.out] at hcv
      go_wp2_with fail
      go_ret2
      exact ⟨rfl, HB2.out.trans (HBj.out.mono HB2.out.size)⟩
end Go.Proofs.YtncjplcefdeckaaDoor
