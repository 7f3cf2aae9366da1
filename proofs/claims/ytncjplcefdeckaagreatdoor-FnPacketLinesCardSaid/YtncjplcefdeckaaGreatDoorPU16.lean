/-
  strconv.ParseUint at base 16, 8 bits, of two bytes.
-/
import Derived.Test.YtncjplcefdeckaaGreatDoorBase
import Derived.Test.YtncjplcefdeckaaGreatDoorShelf
import Derived.Test.YtncjplcefdeckaaGreatDoorParse
import Derived.Lib.ConvBytes
import Derived.Lib.AtoiErrMem
import Derived.Laws.Strings3
import Derived.Laws.Closers25
import Derived.Laws.Closers25b
import Derived.BigCall
import Derived.BigGuard
import Derived.IntWalk
namespace Go.Proofs.YtncjplcefdeckaaGreatDoor
open Go.RowKit Go.Lib
set_option linter.unusedVariables false

/-- The value of a digit of base 16 of either case, or -1. -/
def hxV (b : Nat) : Int := if 48 ≤ b ∧ b ≤ 57 then (b : Int) - 48 else if 65 ≤ b ∧ b ≤ 70 then (b : Int) - 55 else if 97 ≤ b ∧ b ≤ 102 then (b : Int) - 87 else -1
theorem hxV_bd (b : Nat) : -1 ≤ hxV b ∧ hxV b ≤ 15 := by unfold hxV; split <;> (try split) <;> (try split) <;> omega
theorem low_up : ∀ i : Fin 256, 65 ≤ i.val ∧ i.val ≤ 70 → bits .or .u8 ((i.val : Nat) : Int) 32 = ((i.val : Nat) : Int) + 32 := by decide +kernel
theorem low_lo : ∀ i : Fin 256, 97 ≤ i.val ∧ i.val ≤ 102 → bits .or .u8 ((i.val : Nat) : Int) 32 = ((i.val : Nat) : Int) := by decide +kernel
theorem low_no : ∀ i : Fin 256, ¬ (65 ≤ i.val ∧ i.val ≤ 70) → ¬ (97 ≤ i.val ∧ i.val ≤ 102) → bits .or .u8 ((i.val : Nat) : Int) 32 < 97 ∨ 103 ≤ bits .or .u8 ((i.val : Nat) : Int) 32 := by decide +kernel
/-- The number that the first k bytes spell. -/
def accX (bs : List UInt8) : Nat → Int
  | 0 => 0
  | k + 1 => accX bs k * 16 + hxV (bs.getD k 0).toNat
def okX (bs : List UInt8) (k : Nat) : Prop := ∀ j, j < k → 0 ≤ hxV (bs.getD j 0).toNat
theorem okX_succ {bs : List UInt8} {k : Nat} (h : okX bs k) (h2 : 0 ≤ hxV (bs.getD k 0).toNat) : okX bs (k + 1) := fun j hj => by
  rcases (by omega : j < k ∨ j = k) with h3 | rfl
  · exact h j h3
  · exact h2
theorem hx_dec {c : Nat} (h0 : 48 ≤ c) (h1 : c ≤ 57) : hxV c = (c : Int) - 48 := by unfold hxV; rw [if_pos ⟨h0, h1⟩]
theorem hx_up {c : Nat} (h0 : 65 ≤ c) (h1 : c ≤ 70) : hxV c = (c : Int) - 55 := by unfold hxV; rw [if_neg (by omega), if_pos ⟨h0, h1⟩]
theorem hx_lo {c : Nat} (h0 : 97 ≤ c) (h1 : c ≤ 102) : hxV c = (c : Int) - 87 := by unfold hxV; rw [if_neg (by omega), if_neg (by omega), if_pos ⟨h0, h1⟩]
theorem hx_no {c : Nat} (h0 : ¬ (48 ≤ c ∧ c ≤ 57)) (h1 : ¬ (65 ≤ c ∧ c ≤ 70)) (h2 : ¬ (97 ≤ c ∧ c ≤ 102)) : hxV c = -1 := by unfold hxV; rw [if_neg h0, if_neg h1, if_neg h2]

/-- How it ends. -/
def puE (bs : List UInt8) (e : Ending) : Prop := (okX bs 2 ∧ e = .returned (.tuple #[.int .u64 (accX bs 2), .nilIface])) ∨ (¬ okX bs 2 ∧ e = .returned (.tuple #[.int .u64 0, .iface 97 (.int .i64 2)]))
set_option maxHeartbeats 32000000 in
set_option maxRecDepth 100000 in
theorem iPU16_any (t : ByteArray) (h2 : t.size = 2) (w : World) :
    Calls Tryz.prog 96 #[.string t, .int .i64 16, .int .i64 8] w fun e w' => puE t.data.toList e ∧ Below w.heap.size w w' := by
  have hemp : t.toList.isEmpty = false := by
    rw [← decide_eq_emptyBytes]
    exact decide_eq_false (fun h => by rw [h] at h2; cases h2)
  have hcv := Lib.run_convert_string_bytes (P := Tryz.prog) w 9 22 5 t (u := .string) Tryz.underlying9 Tryz.underlying22 Tryz.underlying5
  have hB : ∀ j, j < 2 → (Lib.bytesWorld w 5 t).cell? ⟨w.heap.size, j, none⟩ = some (.int .u8 (t.data.toList.getD j 0).toNat) := fun j hj => Lib.bytesWorld_cell w 5 t j (by omega)
  have HBel : Hid (Below w.heap.size w (Lib.bytesWorld w 5 t)) := Lib.hid (Lib.bytesWorld_below _ _ _)
  obtain ⟨W1, hW1⟩ : ∃ W1, W1 = Lib.bytesWorld w 5 t := ⟨_, rfl⟩
  rw [← hW1] at hcv hB HBel
  clear hW1
  have HBs := Lib.hid hB
  obtain ⟨bs, hL⟩ : ∃ bs, bs = t.data.toList := ⟨_, rfl⟩
  rw [← hL] at HBs ⊢
  clear hL hB
  go_enter Tryz.func96, Tryz.ntmps96
  go_wp2
  go_loop [12, 13, 101] (fun vu vn vi => ∃ (k : Nat) (a : Int), vu = .bool false ∧ vn = .int .u64 a ∧ vi = .int .i64 k ∧ k ≤ 2 ∧ 0 ≤ a ∧ a ≤ 255 ∧ (k < 2 → a ≤ 15) ∧ (k = 0 → a = 0) ∧ Hid (accX bs k = a ∧ okX bs k)) (fun _ _ vi => 2 - (RowKit.intOf vi).toNat)
  case atStart => exact ⟨0, 0, rfl, rfl, rfl, by omega, by omega, by omega, by omega, by omega, Lib.hid ⟨rfl, fun j hj => by omega⟩⟩
  case round =>
    obtain ⟨k, a, rfl, rfl, rfl, hk, a0, a1, a2, a3, HA⟩ := hrel
    by_cases hkn : k < 2
    · have hc := HBs.out k hkn
      obtain ⟨c, hcn⟩ : ∃ c, c = (bs.getD k 0).toNat := ⟨_, rfl⟩
      have hc256 : c < 256 := by rw [hcn]; exact UInt8.toNat_lt _
      rw [← hcn] at hc
      have HCn := Lib.hid hcn
      clear hcn
      have ha := a2 hkn
      have hlow := fun w => Tryz.internal_strconv_lower (c : Int) w
      by_cases hd : 48 ≤ c ∧ c ≤ 57
      · obtain ⟨hd0, hd1⟩ := hd
        have hV := hx_dec hd0 hd1
        clear hlow
        have HN : Hid (accX bs (k + 1) = a * 16 + ((c : Int) - 48) ∧ okX bs (k + 1)) := Lib.hid ⟨by show accX bs k * 16 + hxV _ = _; rw [HA.out.1, ← HCn.out, hV], okX_succ HA.out.2 (by rw [← HCn.out, hV]; omega)⟩
        have m1 : a * 16 + ((c : Int) - 48) ≤ 255 := by omega
        have m2 : a * 16 ≤ 240 := by omega
        clear hV HA
        go_wp2_with fail
        refine ⟨⟨k + 1, a * 16 + ((c : Int) - 48), rfl, (by first | rfl | (congr 1; omega)), (by first | rfl | (congr 1; omega)), by omega, by omega, by omega, by omega, by omega, HN⟩, by simp [RowKit.intOf]; omega⟩
      · by_cases hu : 65 ≤ c ∧ c ≤ 70
        · obtain ⟨hd0, hd1⟩ := hu
          have hV := hx_up hd0 hd1
          rw [low_up ⟨c, hc256⟩ ⟨hd0, hd1⟩] at hlow
          have HLow := Lib.hid hlow
          clear hlow hd
          have HN : Hid (accX bs (k + 1) = a * 16 + ((c : Int) - 55) ∧ okX bs (k + 1)) := Lib.hid ⟨by show accX bs k * 16 + hxV _ = _; rw [HA.out.1, ← HCn.out, hV], okX_succ HA.out.2 (by rw [← HCn.out, hV]; omega)⟩
          have m1 : a * 16 + ((c : Int) - 55) ≤ 255 := by omega
          have m2 : a * 16 ≤ 240 := by omega
          clear hV HA
          go_wp2_with (go_at_call 99; refine (HLow.out _).mono ?_; rintro e w' ⟨rfl, rfl⟩)
          refine ⟨⟨k + 1, a * 16 + ((c : Int) - 55), rfl, (by first | rfl | (congr 1; omega)), (by first | rfl | (congr 1; omega)), by omega, by omega, by omega, by omega, by omega, HN⟩, by simp [RowKit.intOf]; omega⟩
        · by_cases hl : 97 ≤ c ∧ c ≤ 102
          · obtain ⟨hd0, hd1⟩ := hl
            have hV := hx_lo hd0 hd1
            rw [low_lo ⟨c, hc256⟩ ⟨hd0, hd1⟩] at hlow
            have HLow := Lib.hid hlow
            clear hlow hd hu
            have HN : Hid (accX bs (k + 1) = a * 16 + ((c : Int) - 87) ∧ okX bs (k + 1)) := Lib.hid ⟨by show accX bs k * 16 + hxV _ = _; rw [HA.out.1, ← HCn.out, hV], okX_succ HA.out.2 (by rw [← HCn.out, hV]; omega)⟩
            have m1 : a * 16 + ((c : Int) - 87) ≤ 255 := by omega
            have m2 : a * 16 ≤ 240 := by omega
            clear hV HA
            go_wp2_with (go_at_call 99; refine (HLow.out _).mono ?_; rintro e w' ⟨rfl, rfl⟩)
            refine ⟨⟨k + 1, a * 16 + ((c : Int) - 87), rfl, (by first | rfl | (congr 1; omega)), (by first | rfl | (congr 1; omega)), by omega, by omega, by omega, by omega, by omega, HN⟩, by simp [RowKit.intOf]; omega⟩
          · have hV := hx_no hd hu hl
            have hlx := low_no ⟨c, hc256⟩ hu hl
            have hb0 := bits_lo_u8 .or (c : Int) 32
            have hb1 := bits_hi_u8 .or (c : Int) 32
            have HNo : Hid (¬ okX bs 2) := Lib.hid (fun h => by have := h k hkn; rw [← HCn.out, hV] at this; omega)
            simp only at hlx
            by_cases h95 : c = 95
            · subst h95
              have h127 : bits .or .u8 ((95 : Nat) : Int) 32 = 127 := by decide +kernel
              rw [h127] at hlow
              have HLow := Lib.hid hlow
              clear hlow hV HA hu hl hd hlx hb0 hb1 h127
              go_wp2_with (go_at_call 99; refine (HLow.out _).mono ?_; rintro e w' ⟨rfl, rfl⟩)
              all_goals go_ret2
              all_goals exact ⟨Or.inr ⟨HNo.out, rfl⟩, HBel.out⟩
            have h95' : ((c : Int) == 95) = false := by simp; omega
            generalize bits .or .u8 (c : Int) 32 = lx at hlow hlx hb0 hb1
            have HLow := Lib.hid hlow
            clear hlow hV HA hu hl
            have hd' : c < 48 ∨ 57 < c := by omega
            clear hd
            rcases hlx with hlx | hlx
            · go_wp2_with (go_at_call 99; refine (HLow.out _).mono ?_; rintro e w' ⟨rfl, rfl⟩)
              all_goals go_ret2
              all_goals exact ⟨Or.inr ⟨HNo.out, rfl⟩, HBel.out⟩
            · by_cases hz : lx ≤ 122
              · go_wp2_with (go_at_call 99; refine (HLow.out _).mono ?_; rintro e w' ⟨rfl, rfl⟩)
                all_goals go_ret2
                all_goals exact ⟨Or.inr ⟨HNo.out, rfl⟩, HBel.out⟩
              · go_wp2_with (go_at_call 99; refine (HLow.out _).mono ?_; rintro e w' ⟨rfl, rfl⟩)
                all_goals go_ret2
                all_goals exact ⟨Or.inr ⟨HNo.out, rfl⟩, HBel.out⟩
    · obtain rfl : k = 2 := by omega
      have HOk : Hid (okX bs 2 ∧ accX bs 2 = a) := Lib.hid ⟨HA.out.2, HA.out.1⟩
      clear HA
      go_wp2_with fail
      go_ret2
      exact ⟨Or.inl ⟨HOk.out.1, by rw [HOk.out.2]; rfl⟩, HBel.out⟩
end Go.Proofs.YtncjplcefdeckaaGreatDoor
