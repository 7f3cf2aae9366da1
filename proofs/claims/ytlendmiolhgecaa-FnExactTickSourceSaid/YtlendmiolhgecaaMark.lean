/-
  The laws' marks: 'markText'.
-/
import Derived.Test.YtlendmiolhgecaaProg
import Derived.Test.YtlendmiolhgecaaFill
import Derived.Lib.ItoaNum
import Derived.IntWalk
import Derived.Laws.Concat
import Derived.ShutString
import Derived.Test.YtlendmiolhgecaaMath2
import Derived.Laws.IdiomStrings
namespace Go.Proofs.Ytlendmiolhgecaa
open Go.RowKit

/-- The mark of a number. -/
def mkT (k : Nat) : ByteArray := ⟨(109 :: Lib.decDigits k).toArray⟩

theorem conv_one (wr : World) (u : Nat) (d : UInt8) (hd : (d.toNat : Int) = 48 + (u : Int) % 10) : (convert 22 9 (.slice (some ⟨wr.heap.size, 0, none⟩) 1 1)).run Try.prog (wr.alloc (.cells #[.int .u8 (48 + (u : Int) % 10)] 5)) = .ok (.string ⟨#[d]⟩) (wr.alloc (.cells #[.int .u8 (48 + (u : Int) % 10)] 5)) := by
  have := run_convert_bytes_back (P := Try.prog) (wr.alloc (.cells #[.int .u8 (48 + (u : Int) % 10)] 5)) 22 9 5 ⟨wr.heap.size, 0, none⟩ 1 [d] Try.underlying22 Try.underlying5 Try.underlying9
    (fun j hj => by
      have : j = 0 := by simp at hj; omega
      subst this
      rw [addr_add, Nat.zero_add, World.cell?_alloc_new]
      simp [hd])
  exact this

/-- What the loop of 'markText' has gathered. -/
def Gath (k u : Nat) (t : ByteArray) : Prop := (0 < u ∧ Lib.decDigits k = Lib.decDigits u ++ t.data.toList) ∨ (u = 0 ∧ Lib.decDigits k = t.data.toList)

theorem gath_size {k u : Nat} {t : ByteArray} (h : Gath k u t) (hk : k ≤ 100000000) : t.size ≤ 10 := by
  have h1 : (Lib.decDigits k).length ≤ 10 := by rw [Lib.decDigits_length]; exact M.nDigits_pow 9 k (by omega)
  have e : t.data.toList.length = t.size := by simp
  rcases h with ⟨_, h⟩ | ⟨_, h⟩
  · rw [h, List.length_append] at h1; omega
  · rw [h] at h1; omega
theorem gath_step {k u : Nat} {t : ByteArray} {d : UInt8} (h : Gath k u t) (hu : 0 < u) (hd : d = UInt8.ofNat (48 + u % 10)) : Gath k (u / 10) (⟨#[d]⟩ ++ t) := by
  rcases h with ⟨_, h⟩ | ⟨h0, _⟩
  · by_cases h10 : u < 10
    · refine .inr ⟨by omega, ?_⟩
      rw [h, Lib.decDigits_one h10, hd, show u % 10 = u by omega]
      simp
    · refine .inl ⟨by omega, ?_⟩
      rw [h]
      conv => lhs; rw [Lib.decDigits, dif_neg h10]
      rw [hd]
      simp
  · omega
theorem gath_end {k : Nat} {t : ByteArray} (h : Gath k 0 t) : (⟨#[109]⟩ : ByteArray) ++ t = mkT k := by
  rcases h with ⟨h0, _⟩ | ⟨_, h⟩
  · omega
  · apply ByteArray.ext
    unfold mkT
    rw [h]
    simp
theorem dig_chr (u : Nat) (d : UInt8) (hd : d = UInt8.ofNat (48 + u % 10)) : (d.toNat : Int) = 48 + (u : Int) % 10 := by
  rw [hd, M.dig_nat (u % 10) (by omega)]; omega

set_option maxHeartbeats 400000 in
theorem markText_any (k : Nat) (h0 : 1 ≤ k) (hk : k ≤ 100000000) (w : World) :
    Calls Try.prog 82 #[.int .i64 k] w fun e w' => e = .returned (.string (mkT k)) ∧ w.grownBy w' none := by
  go_enter Try.func82, Try.ntmps82
  go_wp2
  go_loopw [0, 3] (fun z o wr => ∃ (u : Nat) (t : ByteArray), u ≤ k ∧ z = .int .i64 u ∧ o = .string t ∧ Hid (Gath k u t) ∧ w.grownBy wr none) (fun z _ _ => (intOf z).toNat)
  case atStart => exact ⟨k, ⟨#[]⟩, Nat.le_refl _, rfl, rfl, Lib.hid (.inl ⟨h0, by simp⟩), ⟨rfl, rfl, rfl, Nat.le_refl _, fun _ _ _ => rfl⟩⟩
  case round =>
    obtain ⟨u, t, hu, rfl, rfl, HT, hg⟩ := hrel
    have hts := gath_size HT.out hk
    by_cases hpos : 0 < u
    · obtain ⟨d, hd⟩ : ∃ d : UInt8, d = UInt8.ofNat (48 + u % 10) := ⟨_, rfl⟩
      have HD := Lib.hid hd
      clear hd
      have hconv := conv_one wr u d (dig_chr u d HD.out)
      have hadd : ∀ W : World, (Op.stringOp .add ⟨#[d]⟩ t).run Try.prog W = .ok (.string (⟨#[d]⟩ ++ t)) W := fun W => run_string_add_sum W _ _ (by show 1 + _ ≤ _; omega)
      go_wp2
      go_roundw
      case rel => exact ⟨u / 10, _, by omega, by go_num, rfl, Lib.hid (gath_step HT.out hpos HD.out), ⟨hg.os, hg.tape, hg.output, Nat.le_trans hg.size (by simp), fun i hi hn => (Below.heap_alloc wr _ i (Nat.lt_of_lt_of_le hi hg.size)).trans (hg.block i hi hn)⟩⟩
      case measure => simp [intOf]; omega
    · obtain rfl : u = 0 := by omega
      have hadd : ∀ W : World, (Op.stringOp .add ⟨#[109]⟩ t).run Try.prog W = .ok (.string (mkT k)) W := fun W => by
        rw [← gath_end HT.out]
        exact run_string_add_sum W _ _ (by show 1 + _ ≤ _; omega)
      go_wp2
      go_ret
      exact ⟨rfl, hg⟩
end Go.Proofs.Ytlendmiolhgecaa
