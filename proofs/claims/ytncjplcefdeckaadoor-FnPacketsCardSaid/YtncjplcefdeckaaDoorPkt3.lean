/-
  Packets: the text of digits, of the specification.
-/
import Derived.Test.YtncjplcefdeckaaDoorPkt2
import Derived.Laws.Concat
namespace Go.Proofs.YtncjplcefdeckaaDoor
open Go.RowKit Go.Lib
set_option linter.unusedVariables false

theorem str_append4 (a b : List UInt8) : (⟨a.toArray⟩ ++ ⟨b.toArray⟩ : ByteArray) = ⟨(a ++ b).toArray⟩ := by
  apply ByteArray.ext; simp
theorem hex_piece (u : Nat) (h : u < 16) : ((⟨#[48, 49, 50, 51, 52, 53, 54, 55, 56, 57, 65, 66, 67, 68, 69, 70]⟩ : ByteArray).extract u (u + 1)) = ⟨[hexC (u : Int)].toArray⟩ := by
  have : ∀ i : Fin 16, ((⟨#[48, 49, 50, 51, 52, 53, 54, 55, 56, 57, 65, 66, 67, 68, 69, 70]⟩ : ByteArray).extract i.val (i.val + 1)) = ⟨[hexC ((i.val : Nat) : Int)].toArray⟩ := by decide +kernel
  exact this ⟨u, h⟩
theorem size_list4 (l : List UInt8) : (⟨l.toArray⟩ : ByteArray).size = l.length := by show l.toArray.size = _; simp
theorem wrap_q (u : Nat) (h : u < 256) : IntKind.i64.wrap ((u : Int) / 16) = (u : Int) / 16 := IntWalk.i64_in _ (by omega)
theorem wrap_r (u : Nat) (h : u < 256) : IntKind.i64.wrap ((u : Int) % 16) = (u : Int) % 16 := IntWalk.i64_in _ (by omega)
theorem wrap_q1 (u : Nat) (h : u < 256) : IntKind.i64.wrap ((u : Int) / 16 + 1) = (u : Int) / 16 + 1 := IntWalk.i64_in _ (by omega)
theorem wrap_r1 (u : Nat) (h : u < 256) : IntKind.i64.wrap ((u : Int) % 16 + 1) = (u : Int) % 16 + 1 := IntWalk.i64_in _ (by omega)
theorem tmod16 (u : Nat) : (u : Int).tmod 16 = (u : Int) % 16 := Int.tmod_eq_emod_of_nonneg (by omega)
theorem tdiv16 (u : Nat) : (u : Int).tdiv 16 = (u : Int) / 16 := Int.tdiv_eq_ediv_of_nonneg (by omega)

set_option maxRecDepth 100000 in
set_option maxHeartbeats 1000000 in
theorem l4Encode_any (k n t l : Int) (d : ByteArray) (w : World) (hp : pktOk k n t l d = true) :
    Calls Tryd.prog 30 #[pv k n t l d] w fun e w' => e = .returned (.string (encB k n t l d)) ∧ Below w.heap.size w w' := by
  have hd : d.size ≤ 8 := (pktOk_bd hp).2.2.2.2.2.2.1
  have HO := Lib.hid (fun w => l4Octets_any k n t l d w hp)
  have hob := octI_bd hp
  have hol := octI_len k n t l d
  have HE : Hid (encB k n t l d = ⟨(encL (octI k n t l d)).toArray⟩) := Lib.hid rfl
  generalize octI k n t l d = os at HO hob hol HE
  have HOB := Lib.hid hob
  clear hp hob
  unfold pv at HO ⊢
  go_enter Tryd.func30, Tryd.ntmps30
  go_wp2_with fail
  refine (HO.out _).mono ?_
  rintro e W2 ⟨v', rfl, ho, hb⟩
  obtain ⟨g, c, rfl⟩ := own_form ho (by omega)
  rw [← hol] at ho
  have HOw := Lib.hid ho
  have HB2 := Lib.hid (((Below.refl w.heap.size w).alloc (Nat.le_refl _) (.cells #[.int .i64 k, .int .i64 n, .int .i64 t, .int .i64 l, .string d] 25)).trans (hb.mono (by simp)))
  obtain ⟨m, hm⟩ : ∃ m, m = os.length := ⟨_, rfl⟩
  have HM := Lib.hid hm
  rw [← hm] at hol HOw
  rw [← hol]
  clear hm ho hb HO
  go_wp2_with fail
  go_loopw [3, 5] (fun s i wr => ∃ j : Nat, j ≤ m ∧ i = .int .i64 j ∧ s = .string ⟨(encL (os.take j)).toArray⟩ ∧ Hid (∃ q, wr = W2.drewN q)) (fun _ i _ => m - (intOf i).toNat)
  case atStart => exact ⟨0, Nat.zero_le _, rfl, rfl, Lib.hid ⟨0, rfl⟩⟩
  case round =>
    obtain ⟨j, hj, rfl, rfl, HQ⟩ := hrel
    by_cases hjm : j < m
    · have hjs : j < os.length := by rw [← HM.out]; exact hjm
      obtain ⟨⟨y, hy1, hc⟩, _, _, _⟩ := own_facts HOw.out hjm
      rw [List.getElem?_map, List.getElem?_eq_getElem hjs] at hy1
      obtain rfl := Option.some.inj hy1
      obtain ⟨o0, o1⟩ := HOB.out os[j] (List.getElem_mem hjs)
      obtain ⟨u, hu⟩ : ∃ u : Nat, os[j] = (u : Int) := ⟨os[j].toNat, by omega⟩
      have HT : Hid (encL (os.take (j + 1)) = encL (os.take j) ++ [hexC ((u : Int) / 16), hexC ((u : Int) % 16)]) := Lib.hid (by
        rw [List.take_succ_eq_append_getElem hjs, encL_snoc, hu])
      have HTL : Hid ((encL (os.take j)).length ≤ 2 * j) := Lib.hid (by rw [encL_len, List.length_take]; omega)
      rw [hu] at hc o0 o1
      have hcr : wr.cell? ⟨g, j, none⟩ = some (.int .i64 (u : Int)) := by obtain ⟨q, hq⟩ := HQ.out; rw [hq]; exact hc
      have hu2 : u < 256 := by omega
      have hj18 : j ≤ 1000 := by omega
      clear hy1 hc hu
      generalize encL (os.take j) = s at HT HTL ⊢
      have q0 : 0 ≤ (u : Int) / 16 := by omega
      have q1 : (u : Int) / 16 + 1 ≤ 16 := by omega
      have q2 : (u : Int) / 16 ≤ (u : Int) / 16 + 1 := by omega
      have q3 : 0 ≤ (u : Int) / 16 + 1 := by omega
      have r0 : 0 ≤ (u : Int) % 16 := by omega
      have r1 : (u : Int) % 16 + 1 ≤ 16 := by omega
      have r2 : (u : Int) % 16 ≤ (u : Int) % 16 + 1 := by omega
      have r3 : 0 ≤ (u : Int) % 16 + 1 := by omega
      have tq0 : ((u : Int) / 16).toNat = u / 16 := by omega
      have tq1 : ((u : Int) / 16 + 1).toNat = u / 16 + 1 := by omega
      have tr0 : ((u : Int) % 16).toNat = u % 16 := by omega
      have tr1 : ((u : Int) % 16 + 1).toNat = u % 16 + 1 := by omega
      have e1 := tmod16 u
      have e2 := tdiv16 u
      have e3 := wrap_q u hu2
      have e4 := wrap_r u hu2
      have e5 := wrap_q1 u hu2
      have e6 := wrap_r1 u hu2
      have hadd1 : ∀ W : World, (Op.stringOp .add ⟨s.toArray⟩ ((⟨#[48, 49, 50, 51, 52, 53, 54, 55, 56, 57, 65, 66, 67, 68, 69, 70]⟩ : ByteArray).extract (u / 16) (u / 16 + 1))).run Tryd.prog W = .ok (.string ⟨(s ++ [hexC ((u : Int) / 16)]).toArray⟩) W := fun W => by
        rw [hex_piece _ (by omega), show (((u / 16 : Nat)) : Int) = (u : Int) / 16 by omega]
        have h := run_string_add_sum (P := Tryd.prog) W ⟨s.toArray⟩ ⟨[hexC ((u : Int) / 16)].toArray⟩ (by
          have := HTL.out
          rw [size_list4, size_list4]
          show _ + 1 ≤ _
          omega)
        rw [str_append4] at h
        exact h
      have hadd2 : ∀ W : World, (Op.stringOp .add ⟨(s ++ [hexC ((u : Int) / 16)]).toArray⟩ ((⟨#[48, 49, 50, 51, 52, 53, 54, 55, 56, 57, 65, 66, 67, 68, 69, 70]⟩ : ByteArray).extract (u % 16) (u % 16 + 1))).run Tryd.prog W = .ok (.string ⟨(s ++ [hexC ((u : Int) / 16)] ++ [hexC ((u : Int) % 16)]).toArray⟩) W := fun W => by
        rw [hex_piece _ (by omega), show (((u % 16 : Nat)) : Int) = (u : Int) % 16 by omega]
        have h := run_string_add_sum (P := Tryd.prog) W ⟨(s ++ [hexC ((u : Int) / 16)]).toArray⟩ ⟨[hexC ((u : Int) % 16)].toArray⟩ (by
          have := HTL.out
          rw [size_list4, size_list4, List.length_append]
          show _ + 1 + 1 ≤ _
          omega)
        rw [str_append4] at h
        exact h
      go_wp2_with fail
      go_quiet (fail)
      go_wp2_with fail
      obtain ⟨w3, hw3⟩ : ∃ w3, w3 = wr.drewN nq := ⟨_, rfl⟩
      rw [← hw3]
      go_quiet (fail)
      go_wp2_with fail
      go_roundw
      case rel => exact ⟨j + 1, by omega, by go_num, by rw [HT.out]; first | done | simp, Lib.hid (by obtain ⟨q, hq⟩ := HQ.out; first | (rw [hw3, hq, World.drewN_drewN, World.drewN_drewN]; exact ⟨_, rfl⟩) | (rw [hq, World.drewN_drewN]; exact ⟨_, rfl⟩))⟩
      case measure => (first | (simp [intOf]; done) | (simp [intOf]; omega))
    · obtain rfl : j = m := by omega
      have HF : Hid (encL (os.take j) = encL os) := Lib.hid (by rw [HM.out, List.take_of_length_le (Nat.le_refl _)])
      go_wp2_with fail
      go_ret
      exact ⟨ret_str (by rw [HE.out, HF.out]), HB2.out.trans (by obtain ⟨q, hq⟩ := HQ.out; rw [hq]; exact (bdrew _ _).mono HB2.out.size)⟩
end Go.Proofs.YtncjplcefdeckaaDoor
