/-
  'l1Split' of the specification: the parts of a text, in a slice of the call's own.
-/
import Derived.Test.YtpmjdppipalfcaaDoorProg
import Derived.Test.YtpmjdppipalfcaaDoorBase
import Derived.Test.YtpmjdppipalfcaaDoorMath1
import Derived.Test.YtpmjdppipalfcaaDoorMath4
import Derived.Laws.DeepStrings4
import Derived.IntWalk
import Derived.Lib.PathFns
import Derived.Maps.AppendAt
namespace Go.Proofs.YtpmjdppipalfcaaDoor
open Go.RowKit

theorem infoStr4 : (Tryd.prog.info? 9).map (fun i => (i.zero, i.size, i.bytes)) = some (some (.string ⟨#[]⟩), 1, 16) := by kernel_rfl

/-- Texts as values. -/
def strV (l : List UInt8) : Value := .string ⟨l.toArray⟩

/-- Where the part that has begun lies in the text. -/
def Cur (s : ByteArray) (k f : Nat) (c : UInt8) : Prop := f ≤ k ∧ (s.extract f k).data.toList = (M.sp c (s.data.toList.take k)).2

/-- The finished parts after k bytes. -/
def done (s : ByteArray) (c : UInt8) (k : Nat) : List (List UInt8) := (M.sp c (s.data.toList.take k)).1

theorem extract_snoc (s : ByteArray) (f k : Nat) (hf : f ≤ k) (hk : k < s.size) : (s.extract f (k + 1)).data.toList = (s.extract f k).data.toList ++ [s[k]] := by
  have e1 : ∀ j, j ≤ s.size → (s.extract f j).data.toList = (s.data.toList.take j).drop f := fun j hj => by
    simp [ByteArray.data_extract, List.drop_take]
  rw [e1 _ (by omega), e1 _ (by omega), M.take_snoc s k hk, List.drop_append_of_le_length (by simp; omega)]

theorem cur_zero (s : ByteArray) (c : UInt8) : Cur s 0 0 c := ⟨Nat.le_refl _, by simp [M.sp_nil]⟩
theorem done_zero (s : ByteArray) (c : UInt8) : done s c 0 = [] := by simp [done, M.sp_nil]

theorem cur_miss {s : ByteArray} {c : UInt8} {k f : Nat} (h : Cur s k f c) (hk : k < s.size) (hc : ((s[k].toNat : Int) == (c.toNat : Int)) = false) : Cur s (k + 1) f c ∧ done s c (k + 1) = done s c k := by
  have hne : s[k] ≠ c := fun e => by rw [e] at hc; simp at hc
  unfold Cur done
  rw [M.take_snoc s k hk, M.sp_miss c _ _ hne, extract_snoc s f k h.1 hk, h.2]
  exact ⟨⟨by have := h.1; omega, rfl⟩, rfl⟩
theorem cur_hit {s : ByteArray} {c : UInt8} {k f : Nat} (h : Cur s k f c) (hk : k < s.size) (hc : ((s[k].toNat : Int) == (c.toNat : Int)) = true) :
    Cur s (k + 1) (k + 1) c ∧ done s c (k + 1) = done s c k ++ [(s.extract f k).data.toList] := by
  have he : s[k] = c := by
    have : (s[k].toNat : Int) = c.toNat := by simpa using hc
    exact UInt8.toNat_inj.1 (by omega)
  unfold Cur done
  rw [M.take_snoc s k hk, he, M.sp_hit, h.2]
  exact ⟨⟨Nat.le_refl _, by simp⟩, rfl⟩
theorem done_len (s : ByteArray) (c : UInt8) (k : Nat) : (done s c k).length ≤ k := by
  have := M.sp_len c (s.data.toList.take k)
  unfold done
  rw [List.length_take] at this
  omega
theorem cur_end {s : ByteArray} {c : UInt8} {f : Nat} (h : Cur s s.size f c) : M.parts c s.data.toList = done s c s.size ++ [(s.extract f s.size).data.toList] := by
  have h2 := h.2
  unfold done M.parts
  rw [M.take_all] at h2 ⊢
  rw [h2]
theorem strV_extract (s : ByteArray) (f k : Nat) : Value.string (s.extract f k) = strV (s.extract f k).data.toList := by
  unfold strV
  congr 1

theorem own_hit {s : ByteArray} {c : UInt8} {k f B : Nat} {w : World} {v : Value} (hd : done s c (k + 1) = done s c k ++ [(s.extract f k).data.toList])
    (h : w.ownsRow B 9 1 v ((done s c k).length + 1) ((done s c k).map strV ++ [.string (s.extract f k)])) : w.ownsRow B 9 1 v (done s c (k + 1)).length ((done s c (k + 1)).map strV) := by
  rw [hd, List.length_append, List.length_singleton, List.map_append, List.map_singleton, ← strV_extract]
  exact h
theorem own_end {s : ByteArray} {c : UInt8} {f B : Nat} {w : World} {v : Value} (hd : M.parts c s.data.toList = done s c s.size ++ [(s.extract f s.size).data.toList])
    (h : w.ownsRow B 9 1 v ((done s c s.size).length + 1) ((done s c s.size).map strV ++ [.string (s.extract f s.size)])) : w.ownsRow B 9 1 v (M.parts c s.data.toList).length ((M.parts c s.data.toList).map strV) := by
  rw [hd, List.length_append, List.length_singleton, List.map_append, List.map_singleton, ← strV_extract]
  exact h
theorem below_own {B : Nat} {w wr w1 : World} {o : Obj} {e : TypeId} {z n : Nat} {v : Value} {xs : List Value} (hb : Below B w wr) (hB : B ≤ wr.heap.size) (ho : wr.ownsRow B e z v n xs) (hg : (wr.alloc o).grownBy w1 v.ownBlock) : Below B w w1 :=
  (hb.alloc hB o).grown hg (by simp; omega) (fun k hk => (ho.lt k hk).1)

set_option maxRecDepth 100000 in
set_option maxHeartbeats 1000000 in
theorem l1Split_any (s : ByteArray) (c : UInt8) (hs : s.size ≤ 1048576) (w : World) :
    Calls Tryd.prog 60 #[.string s, .int .u8 c.toNat] w fun e w' => ∃ v, e = .returned v ∧
      w'.ownsRow w.heap.size 9 1 v (M.parts c s.data.toList).length ((M.parts c s.data.toList).map strV) ∧ Below w.heap.size w w' := by
  obtain ⟨i0, hi, hz0, hz1, hz2⟩ := info_parts infoStr4
  go_enter Tryd.func60, Tryd.ntmps60
  go_wp2_with fail
  go_loopw [5, 6, 7] (fun o f i wr => ∃ k fr : Nat, k ≤ s.size ∧ fr ≤ k ∧ i = .int .i64 k ∧ f = .int .i64 fr ∧ Hid (Cur s k fr c) ∧ wr.ownsRow w.heap.size 9 1 o (done s c k).length ((done s c k).map strV) ∧ Below w.heap.size w wr) (fun _ _ i _ => s.size - (intOf i).toNat)
  case atStart => exact ⟨0, 0, Nat.zero_le _, Nat.le_refl _, rfl, rfl, Lib.hid (cur_zero s c), by rw [done_zero]; exact World.ownsRow_made w #[] 0 (Nat.le_refl _) (Nat.zero_le _) rfl, (Below.refl _ _).alloc (Nat.le_refl _) _⟩
  case round =>
    obtain ⟨k, fr, hk, hfr, rfl, rfl, HC, hown, hbel⟩ := hrel
    have hdl := done_len s c k
    have hsz := hbel.size
    by_cases hks : k < s.size
    · by_cases hc : ((s[k].toNat : Int) == (c.toNat : Int)) = true
      · have hx : 0 < 1 := Nat.one_pos
        go_wp2_with (at_builtin; refine wpList_append_own _ rfl _ _ 29 rfl w.heap.size 9 i0 (.string ⟨#[]⟩) 1 16 Tryd.underlying29 hi hz0 hz1 hz2 rfl (by decide) _ _ _ rfl (hown.alloc _) ⟨wr.heap.size, 0, none⟩ 1 1 [.string (s.extract fr k)] rfl rfl (cell_one_new _ _ _) (by intro u hu; simp at hu; subst hu; rfl) (by unfold maxLen; omega) (by omega) (by simp; omega) ?_; intro v' w1 hown' hgrow _)
        go_roundw
        case rel => exact ⟨k + 1, k + 1, by omega, Nat.le_refl _, by go_num, by go_num, Lib.hid (cur_hit HC.out hks hc).1, own_hit (cur_hit HC.out hks hc).2 hown', below_own hbel hsz hown hgrow⟩
        case measure => simp [intOf]; omega
      · have hc' : ((s[k].toNat : Int) == (c.toNat : Int)) = false := by simpa using hc
        clear hc
        go_wp2_with fail
        go_roundw
        case rel => exact ⟨k + 1, fr, by omega, by omega, by go_num, rfl, Lib.hid (cur_miss HC.out hks hc').1, by rw [(cur_miss HC.out hks hc').2]; exact hown, hbel⟩
        case measure => simp [intOf]; omega
    · obtain rfl : k = s.size := by omega
      go_wp2_with (at_builtin; refine wpList_append_own _ rfl _ _ 29 rfl w.heap.size 9 i0 (.string ⟨#[]⟩) 1 16 Tryd.underlying29 hi hz0 hz1 hz2 rfl (by decide) _ _ _ rfl (hown.alloc _) ⟨wr.heap.size, 0, none⟩ 1 1 [.string (s.extract fr s.size)] rfl rfl (cell_one_new _ _ _) (by intro u hu; simp at hu; subst hu; rfl) (by unfold maxLen; omega) (by omega) (by simp; omega) ?_; intro v' w1 hown' hgrow _)
      go_ret
      exact ⟨_, rfl, own_end (cur_end HC.out) hown', below_own hbel hsz hown hgrow⟩
end Go.Proofs.YtpmjdppipalfcaaDoor
