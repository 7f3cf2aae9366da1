/-
  The draw of JoinStrings' arguments: a list of texts that the draw itself gathers.
-/
import Derived.Test.YtjdlkkhkaobpnaaDraw1
import Derived.Maps.AppendAt
import Derived.Laws.IdiomStrings
namespace Go.Proofs.Ytjdlkkhkaobpnaa
open Go.RowKit

theorem infoStr5 : (Try.prog.info? 9).map (fun i => (i.zero, i.size, i.bytes)) = some (some (.string ⟨#[]⟩), 1, 16) := by kernel_rfl
theorem infoByte : (Try.prog.info? 5).map (fun i => (i.zero, i.size, i.bytes)) = some (some (.int .u8 0), 1, 1) := by kernel_rfl

def joL : List ByteArray := [⟨#[44]⟩, ⟨#[59]⟩, ⟨#[59]⟩, ⟨#[]⟩, ⟨#[97, 98]⟩]
theorem joL_size : ∀ x ∈ joL, x.size ≤ 2 := by
  intro x hx
  simp only [joL, List.mem_cons, List.not_mem_nil, or_false] at hx
  rcases hx with rfl | rfl | rfl | rfl | rfl <;> decide

/-- An owned row beyond block B outlives what is written into B. -/
theorem own_past {w w' : World} {b B n : Nat} {e : TypeId} {v : Value} {xs : List Value} (h : w.ownsRow b e 1 v n xs) (hB : B < b) (hg : w.grownBy w' (some B)) : w'.ownsRow b e 1 v n xs := by
  refine h.kept hg ?_
  cases hv : v.ownBlock with
  | none => exact .inl rfl
  | some k =>
    refine .inr fun e => ?_
    have := (h.lt k hv).1
    have e2 : k = B := Option.some.inj e
    omega

theorem zero_bytes (n : Nat) (hn : n ≤ 5000) (W : World) :
    (Instr.makeSlice 22 (.int .i64 (n : Int)) (.int .i64 (n : Int))).run Try.prog W = .ok (.slice (some ⟨W.heap.size, 0, none⟩) n n) (W.alloc (.cells (fillV (List.replicate n (.int .u8 0)) (.int .u8 0) 0) 5)) := by
  obtain ⟨i0, hi, hz0, hz1, hz2⟩ := info_parts infoByte
  rw [run_make (P := Try.prog) W 22 5 i0 (.int .u8 0) Try.underlying22 hi hz0 .i64 .i64 n n (by omega) (by omega) (by rw [hz2]; omega) (by omega), hz1, Int.toNat_natCast,
    made_is n (List.replicate n (.int .u8 0)) (by simp) rfl]
theorem zero_text (n : Nat) (W : World) :
    (convert 22 9 (.slice (some ⟨W.heap.size, 0, none⟩) n n)).run Try.prog (W.alloc (.cells (fillV (List.replicate n (.int .u8 0)) (.int .u8 0) 0) 5)) =
      .ok (.string ⟨(List.replicate n 0).toArray⟩) (W.alloc (.cells (fillV (List.replicate n (.int .u8 0)) (.int .u8 0) 0) 5)) := by
  have := run_convert_bytes_back (P := Try.prog) (W.alloc (.cells (fillV (List.replicate n (.int .u8 0)) (.int .u8 0) 0) 5)) 22 9 5 ⟨W.heap.size, 0, none⟩ n (List.replicate n 0) Try.underlying22 Try.underlying5 Try.underlying9
    (fun j hj => by
      rw [addr_add, Nat.zero_add, World.cell?_alloc_new, fillV_zero]
      rw [List.length_replicate] at hj
      simp [hj])
  rw [List.length_replicate] at this
  exact this

set_option maxRecDepth 100000 in
set_option maxHeartbeats 1000000 in
theorem drawJoin_any (v : Value) (z : List Int) (w : World) (hrow : Row w v z.length (z.map (Value.int .u8))) (hz : ∀ x ∈ z, 0 ≤ x ∧ x < 256) :
    Calls Try.prog 11 #[v] w fun e w' => ∃ (u : Value) (ps : List ByteArray) (sep : ByteArray), ps.length ≤ 4 ∧ (∀ p ∈ ps, p.size ≤ 4010) ∧ sep.size ≤ 2 ∧ e = .returned (.tuple #[u, .string sep]) ∧
      w'.ownsRow (w.heap.size + 1) 9 1 u ps.length (ps.map Value.string) ∧ Below w.heap.size w w' := by
  have HC0 := Lib.hid (cu_new w v z hrow hz)
  obtain ⟨a0, cap0, rfl, _, _, _⟩ := row_open hrow
  obtain ⟨i0, hi, hz0, hz1, hz2⟩ := info_parts infoStr5
  clear hrow hz
  go_enter Try.func11, Try.ntmps11
  go_wp2_with fail
  refine (pick_any w.heap.size 0 4 z _ (HC0.out.grown (World.grownBy_alloc _ _ none)) (by omega) (by omega) (by omega)).mono ?_
  rintro e w1 ⟨n, hn, rfl, hc, hg⟩
  have own1 : w1.ownsRow (w.heap.size + 1) 9 1 (.slice (some ⟨w.heap.size + 1, 0, none⟩) 0 0) 0 [] := by
    have h := World.ownsRow_made (base := w.heap.size + 1) (e := 9) (size := 1) (w.alloc (.cells #[.slice a0 z.length cap0, .int .i64 0, .int .u64 0] 44)) #[] 0 (by simp) (Nat.zero_le _) rfl
    rw [World.size_alloc] at h
    exact own_past h (by omega) hg
  have b1 : Below w.heap.size w w1 := ((((Below.refl _ _).alloc (Nat.le_refl _) _).alloc (by simp) _)).trans (grown_below hg (by simp; omega) (Nat.le_refl _))
  have z1 : w.heap.size + 2 ≤ w1.heap.size := by have := hg.size; simp at this; omega
  have HC1 := Lib.hid hc
  clear hc hg
  go_wp2_with fail
  go_loopw [5, 7] (fun u i wr => ∃ (k : Nat) (ps : List ByteArray), k ≤ n ∧ ps.length = k ∧ Hid (∀ p ∈ ps, p.size ≤ 4010) ∧ i = .int .i64 k ∧ wr.ownsRow (w.heap.size + 1) 9 1 u ps.length (ps.map Value.string) ∧ Hid (Cu wr w.heap.size z (2 + 2 * k)) ∧ Below w.heap.size w wr ∧ w.heap.size + 2 ≤ wr.heap.size) (fun _ i _ => n - (intOf i).toNat)
  case atStart => exact ⟨0, [], Nat.zero_le _, rfl, Lib.hid (by simp), rfl, own1, HC1, b1, z1⟩
  case round =>
    obtain ⟨k, ps, hk, hl, HP, rfl, hown, HC, hb, hz3⟩ := hrel
    have HL := Lib.hid hl
    clear own1 b1 HC1
    by_cases hkn : k < n
    · go_wp2_with fail
      refine (any1_any w.heap.size (2 + 2 * k) z _ HC.out (by omega)).mono ?_
      rintro e w2 ⟨x, hx, rfl, hc2, hg2⟩
      have HX := Lib.hid (anyL_size x hx)
      have hown2 := own_past hown (by omega) hg2
      have hb2 := hb.trans (grown_below hg2 hb.size (Nat.le_refl _))
      have hz4 : w.heap.size + 2 ≤ w2.heap.size := Nat.le_trans hz3 hg2.size
      have HC2 := Lib.hid hc2
      clear hx hc2 hg2 hown hb
      go_wp2_with (at_builtin; refine wpList_append_own _ rfl _ _ 26 rfl (w.heap.size + 1) 9 i0 (.string ⟨#[]⟩) 1 16 Try.underlying26 hi hz0 hz1 hz2 rfl (by decide) _ _ _ rfl (hown2.alloc _) ⟨w2.heap.size, 0, none⟩ 1 1 [.string x] rfl rfl (cell_one_new _ _ _) (by intro u hu; simp at hu; subst hu; rfl) (by unfold maxLen; omega) (by omega) (by simp; omega) ?_; intro v' w3 hown' hgrow _)
      go_roundw
      case rel => exact ⟨k + 1, ps ++ [x], by omega, by rw [List.length_append, HL.out]; rfl, Lib.hid (by
        intro p hp
        rcases List.mem_append.1 hp with h | h
        · exact HP.out p h
        · simp at h; subst h; have := HX.out; omega), by go_num, by rw [List.length_append, List.map_append]; exact hown', Lib.hid (((HC2.out.grown (World.grownBy_alloc _ _ none)).grown' hgrow (fun j hj => by have := (hown2.lt j hj).1; omega)).mono (by omega)), (hb2.alloc hb2.size _).grown hgrow (by simp; omega) (fun j hj => by have := (hown2.lt j hj).1; omega), Nat.le_trans hz4 (Nat.le_trans (by simp) hgrow.size)⟩
      case measure => simp [intOf]; omega
    · go_wp2_with fail
      refine (one_any w.heap.size (2 + 2 * k) 20 z _ HC.out (by omega) (by omega) (by omega)).mono ?_
      rintro e w2 ⟨b, rfl, hc2, hg2⟩
      have hown2 := own_past hown (by omega) hg2
      have hb2 := hb.trans (grown_below hg2 hb.size (Nat.le_refl _))
      have hz4 : w.heap.size + 2 ≤ w2.heap.size := Nat.le_trans hz3 hg2.size
      have HC2 := Lib.hid hc2
      clear hc2 hg2 hown hb
      cases b with
      | false =>
        go_wp2_with fail
        refine (of_any w.heap.size (2 + 2 * k + 2) z _ joL _ (HC2.out.grown (World.grownBy_alloc _ _ none)) (by omega) (by decide) (by decide) (fun w' hg => row_fresh (xs := joL.map Value.string) (n := joL.length) (List.length_map _).symm (by decide) HC2.out.lt hg)).mono ?_
        rintro e w3 ⟨y, hy, rfl, _, hg3⟩
        have HY := Lib.hid (joL_size y hy)
        have hown3 := own_past (hown2.alloc _) (by omega) hg3
        have hb3 := (hb2.alloc hb2.size _).trans (grown_below hg3 (by simp; omega) (Nat.le_refl _))
        clear hy hg3
        go_wp2_with fail
        go_ret2
        exact ⟨_, ps, y, by have := HL.out; omega, HP.out, HY.out, rfl, hown3, hb3⟩
      | true =>
        go_wp2_with fail
        refine (pick_any w.heap.size (2 + 2 * k + 2) 20 z _ HC2.out (by omega) (by omega) (by omega)).mono ?_
        rintro e w3 ⟨j, hj, rfl, hc3, hg3⟩
        have hown3 := own_past hown2 (by omega) hg3
        have hb3 := hb2.trans (grown_below hg3 hb2.size (Nat.le_refl _))
        have hz5 : w.heap.size + 2 ≤ w3.heap.size := Nat.le_trans hz4 hg3.size
        have HC3 := Lib.hid hc3
        clear hc3 hg3
        have hmk : ∀ W : World, (Instr.makeSlice 22 (.int .i64 (3990 + (j : Int))) (.int .i64 (3990 + (j : Int)))).run Try.prog W = .ok (.slice (some ⟨W.heap.size, 0, none⟩) (3990 + j) (3990 + j)) (W.alloc (.cells (fillV (List.replicate (3990 + j) (.int .u8 0)) (.int .u8 0) 0) 5)) := fun W => by
          rw [show (3990 + (j : Int)) = ((3990 + j : Nat) : Int) from by omega]; exact zero_bytes (3990 + j) (by omega) W
        obtain ⟨zt, hzt⟩ : ∃ zt : ByteArray, zt = ⟨(List.replicate (3990 + j) 0).toArray⟩ := ⟨_, rfl⟩
        have hzs : zt.size ≤ 4010 := by
          rw [hzt]; show (List.replicate (3990 + j) (0 : UInt8)).toArray.size ≤ 4010
          simp; omega
        have htx := zero_text (3990 + j) w3
        rw [← hzt] at htx
        have HZ := Lib.hid hzs
        clear hzt hzs
        go_wp2_with (at_builtin; refine wpList_append_own _ rfl _ _ 26 rfl (w.heap.size + 1) 9 i0 (.string ⟨#[]⟩) 1 16 Try.underlying26 hi hz0 hz1 hz2 rfl (by decide) _ _ _ rfl ((hown3.alloc _).alloc _) ⟨w3.heap.size + 1, 0, none⟩ 1 1 [.string zt] rfl rfl (by have := cell_one_new (w3.alloc (.cells (fillV (List.replicate (3990 + j) (.int .u8 0)) (.int .u8 0) 0) 5)) (.string zt) 9; rw [World.size_alloc] at this; exact this) (by intro u hu; simp at hu; subst hu; rfl) (by unfold maxLen; omega) (by omega) (by simp; omega) ?_; intro v' w4 hown' hgrow _)
        have HC4 := Lib.hid (((HC3.out.grown (World.grownBy_alloc _ _ none)).grown (World.grownBy_alloc _ _ none)).grown' hgrow (fun i hi => by have := (hown3.lt i hi).1; omega))
        have hb4 : Below w.heap.size w w4 := ((hb3.alloc hb3.size _).alloc (by simp; omega) _).grown hgrow (by simp; omega) (fun i hi => by have := (hown3.lt i hi).1; omega)
        have hz6 := hb4.size
        clear hgrow
        refine (of_any w.heap.size (2 + 2 * k + 2 + 2) z _ joL _ (HC4.out.grown (World.grownBy_alloc _ _ none)) (by omega) (by decide) (by decide) (fun w' hg => row_fresh (xs := joL.map Value.string) (n := joL.length) (List.length_map _).symm (by decide) HC4.out.lt hg)).mono ?_
        rintro e w5 ⟨y, hy, rfl, _, hg5⟩
        have HY := Lib.hid (joL_size y hy)
        have hown5 := own_past (hown'.alloc _) (by omega) hg5
        have hb5 := (hb4.alloc hb4.size _).trans (grown_below hg5 (by simp; omega) (Nat.le_refl _))
        clear hy hg5
        go_wp2_with fail
        go_ret2
        exact ⟨_, ps ++ [zt], y, by have := HL.out; rw [List.length_append, List.length_singleton]; omega, by
          intro p hp
          rcases List.mem_append.1 hp with h | h
          · exact HP.out p h
          · simp at h; subst h; exact HZ.out, HY.out, rfl, by rw [List.length_append, List.map_append]; exact hown5, hb5⟩
end Go.Proofs.Ytjdlkkhkaobpnaa
