/-
  Packets of the program: the octets of a text.
-/
import Derived.Test.YtncjplcefdeckaaDoorPU16
import Derived.Test.YtncjplcefdeckaaDoorPkt4
import Derived.Lib.IndexBytes
namespace Go.Proofs.YtncjplcefdeckaaDoor
open Go.RowKit Go.Lib Go.Joins
set_option linter.unusedVariables false

theorem hx_of_hex {b : UInt8} (h : 0 ≤ hexV b) : hxV b.toNat = hexV b := by
  unfold hexV at h ⊢
  unfold hxV
  by_cases h1 : 48 ≤ b.toNat ∧ b.toNat ≤ 57
  · rw [if_pos h1, if_pos h1]
  · rw [if_neg h1] at h ⊢
    by_cases h2 : 65 ≤ b.toNat ∧ b.toNat ≤ 70
    · rw [if_neg h1, if_pos h2, if_pos h2]
    · rw [if_neg h2] at h
      omega
theorem accX_bd {l : List UInt8} (h : okX l 2) : 0 ≤ accX l 2 ∧ accX l 2 ≤ 255 := by
  have h0 := h 0 (by omega)
  have h1 := h 1 (by omega)
  have b0 := hxV_bd (l.getD 0 0).toNat
  have b1 := hxV_bd (l.getD 1 0).toNat
  show 0 ≤ ((0 : Int) * 16 + hxV (l.getD 0 0).toNat) * 16 + hxV (l.getD 1 0).toNat ∧ ((0 : Int) * 16 + hxV (l.getD 0 0).toNat) * 16 + hxV (l.getD 1 0).toNat ≤ 255
  omega
theorem pair_oct {s : ByteArray} {j : Nat} {l : List UInt8} (hl : l = (s.data.toList.drop (2 * j)).take 2) (h2 : 2 * j + 2 ≤ s.size) (hd : digsB s = true) : okX l 2 ∧ accX l 2 = octT s j := by
  have hsz : s.data.toList.length = s.size := rfl
  have g0 : l.getD 0 0 = s[2 * j]'(by omega) := by
    rw [hl, List.getD_eq_getElem?_getD, List.getElem?_take_of_lt (by omega), List.getElem?_drop, List.getElem?_eq_getElem (by omega)]; rfl
  have g1 : l.getD 1 0 = s[2 * j + 1]'(by omega) := by
    rw [hl, List.getD_eq_getElem?_getD, List.getElem?_take_of_lt (by omega), List.getElem?_drop, List.getElem?_eq_getElem (by omega)]; rfl
  have d0 := digs_at hd (show 2 * j < s.size by omega)
  have d1 := digs_at hd (show 2 * j + 1 < s.size by omega)
  refine ⟨fun i hi => ?_, ?_⟩
  · rcases (by omega : i = 0 ∨ i = 1) with rfl | rfl
    · rw [g0, hx_of_hex d0]; exact d0
    · rw [g1, hx_of_hex d1]; exact d1
  · show ((0 : Int) * 16 + hxV (l.getD 0 0).toNat) * 16 + hxV (l.getD 1 0).toNat = _
    unfold octT
    rw [g0, g1, hx_of_hex d0, hx_of_hex d1, byteH_in (show 2 * j < s.size by omega), byteH_in (show 2 * j + 1 < s.size by omega)]
    omega
set_option maxHeartbeats 2000000 in
theorem octetsIn_any (s : ByteArray) (w : World) (hs : s.size ≤ 2097152) (he : Errs w) :
    Calls Tryd.prog 45 #[.string s] w fun e w' => ∃ (g n c : Nat) (xs : List Int), e = .returned (.slice (some ⟨g, 0, none⟩) n c) ∧
      w'.ownsRow w.heap.size 5 1 (.slice (some ⟨g, 0, none⟩) n c) n (xs.map (Value.int .u8)) ∧ xs.length = n ∧ 2 * n ≤ s.size ∧ (∀ x ∈ xs, 0 ≤ x ∧ x ≤ 255) ∧ (digsB s = true → xs = octsT s (s.size / 2)) ∧ Below w.heap.size w w' := by
  obtain ⟨iu, hiu, hu0, hu1, hu2⟩ := info_parts infoU8
  have HE := Lib.hid he
  clear he
  obtain ⟨N, hN⟩ : ∃ N, N = s.size := ⟨_, rfl⟩
  rw [← hN] at hs
  have HN := Lib.hid hN
  clear hN
  go_enter Tryd.func45, Tryd.ntmps45
  go_wp2_with fail
  go_loopw [0, 3] (fun vs vo wr => ∃ (j g c : Nat) (r : ByteArray) (xs : List Int), vs = .string r ∧ vo = .slice (some ⟨g, 0, none⟩) j c ∧ r.size + 2 * j ≤ N ∧ N ≤ r.size + 2 * j ∧ Hid (r.data.toList = s.data.toList.drop (2 * j)) ∧ Hid (wr.ownsRow w.heap.size 5 1 (.slice (some ⟨g, 0, none⟩) j c) j (xs.map (Value.int .u8))) ∧ Hid (xs.length = j ∧ (∀ x ∈ xs, 0 ≤ x ∧ x ≤ 255) ∧ (digsB s = true → xs = octsT s j)) ∧ Hid (Below w.heap.size w wr))
    (fun vs _ _ => match vs with | .string r => r.size | _ => 0)
  case atStart => exact ⟨0, _, _, s, [], rfl, rfl, by rw [HN.out]; omega, by rw [HN.out]; omega, Lib.hid rfl, Lib.hid (World.ownsRow_made w #[] 0 (Nat.le_refl _) (Nat.zero_le _) rfl), Lib.hid ⟨rfl, by simp, fun _ => rfl⟩, Lib.hid ((Below.refl _ _).alloc (Nat.le_refl _) _)⟩
  case round =>
    obtain ⟨j, g, c, r, xs, rfl, rfl, hz1, hz2, HR, HO, HX, HB⟩ := hrel
    by_cases h2 : 2 ≤ r.size
    · have h2' : (2 : Int) ≤ (r.size : Int) := by omega
      obtain ⟨t, ht⟩ : ∃ t, t = r.extract 0 2 := ⟨_, rfl⟩
      have ht2 : t.size = 2 := by rw [ht]; simp; omega
      have htl : t.data.toList = (s.data.toList.drop (2 * j)).take 2 := by rw [ht, ← HR.out]; simp
      obtain ⟨r2, hr2⟩ : ∃ r2, r2 = r.extract 2 r.size := ⟨_, rfl⟩
      have hr2s : r2.size = r.size - 2 := by rw [hr2]; simp
      have hr2l : r2.data.toList = s.data.toList.drop (2 * (j + 1)) := by rw [hr2, Lib.extract_to_end, HR.out, List.drop_drop]; congr 1
      have HR2 := Lib.hid hr2l
      have HT2 := Lib.hid ht2
      have HTl := Lib.hid htl
      have hrex : r.extract 2 r.size = r2 := hr2.symm
      clear ht2 htl hr2l hr2
      go_wp2_with fail
      rw [← ht]
      clear ht
      have hsz := HB.out.size
      by_cases hok : okX t.data.toList 2
      · have hab := accX_bd hok
        have HC := Lib.hid (PU16_ok t HT2.out hok wr)
        have HX2 : Hid (digsB s = true → accX t.data.toList 2 = octT s j) := Lib.hid (fun hd => (pair_oct HTl.out (by rw [← HN.out]; omega) hd).2)
        generalize accX t.data.toList 2 = a at HC HX2 hab
        obtain ⟨a0, a1⟩ := hab
        refine HC.out.mono ?_
        rintro e W1 ⟨rfl, l1⟩
        have HO1 := Lib.hid (own_below HO.out l1 (Nat.le_refl _))
        have HB1 := Lib.hid (HB.out.trans (l1.mono hsz))
        have hs1 := HB1.out.size
        clear l1 HC hok HB HO
        go_wp2_with (at_builtin; refine wpList_append_own _ rfl _ _ 22 rfl w.heap.size 5 iu (.int .u8 0) 1 1 Tryd.underlying22 hiu hu0 hu1 hu2 rfl (by decide) _ _ _ rfl (HO1.out.alloc _) ⟨W1.heap.size, 0, none⟩ 1 1 [.int .u8 a] rfl rfl (cell_one_new _ _ _) (by intro u hu; simp at hu; subst hu; rfl) (by unfold maxLen; omega) (by omega) (by simp; omega) ?_; intro v' w2 hown' hgrow _)
        have HB2 := Lib.hid (below_app4 HB1.out hs1 HO1.out hgrow)
        obtain ⟨g3, c3, rfl⟩ := own_form hown' (by omega)
        have HO2 : Hid (w2.ownsRow w.heap.size 5 1 (.slice (some ⟨g3, 0, none⟩) (j + 1) c3) (j + 1) ((xs ++ [a]).map (Value.int .u8))) := Lib.hid (by rw [List.map_append, List.map_singleton]; exact hown')
        have HX3 : Hid ((xs ++ [a]).length = j + 1 ∧ (∀ x ∈ xs ++ [a], 0 ≤ x ∧ x ≤ 255) ∧ (digsB s = true → xs ++ [a] = octsT s (j + 1))) := Lib.hid ⟨by rw [List.length_append, HX.out.1]; rfl, by
          intro x hx
          rcases List.mem_append.1 hx with hx | hx
          · exact HX.out.2.1 x hx
          · rw [List.mem_singleton.1 hx]; exact ⟨a0, a1⟩, fun hd => by rw [octsT_succ, HX.out.2.2 hd, HX2.out hd]⟩
        clear hown' hgrow
        go_roundw
        case rel => exact ⟨j + 1, g3, c3, r2, xs ++ [a], by first | rfl | (rw [hrex]), rfl, by omega, by omega, HR2, HO2, HX3, HB2⟩
        case measure => (simp; omega)
      · have HE2 := Lib.hid (HE.out.below HB.out)
        have HD : Hid (¬ digsB s = true) := Lib.hid (fun hd => hok (pair_oct HTl.out (by rw [← HN.out]; omega) hd).1)
        refine (PU16_bad t HT2.out hok wr HE2.out).mono ?_
        rintro e W1 ⟨M, rfl, l1⟩
        have HB1 := Lib.hid (HB.out.trans (l1.mono hsz))
        clear l1
        go_wp2_with fail
        go_ret
        refine ⟨_, 0, _, [], rfl, World.ownsRow_made W1 #[] 0 HB1.out.size (Nat.zero_le _) rfl, rfl, by omega, by simp, fun hd => absurd hd HD.out, HB1.out.alloc HB1.out.size _⟩
    · have h2' : ¬ (2 : Int) ≤ (r.size : Int) := by omega
      go_wp2_with fail
      go_ret
      exact ⟨g, j, c, rfl, xs, HO.out, HX.out.1, by rw [← HN.out]; omega, HX.out.2.1, fun hd => by rw [← HN.out, show N / 2 = j by omega]; exact HX.out.2.2 hd, HB.out⟩
end Go.Proofs.YtncjplcefdeckaaDoor
