/-
  Packets of the program: the packet that a line spells, and 'ParsePacketLine'.
-/
import Derived.Test.YtncjplcefdeckaaGreatDoorLine2
import Derived.Test.YtncjplcefdeckaaGreatDoorKw
import Derived.Test.YtncjplcefdeckaaGreatDoorPktLaw
import Derived.Deep.RegionHeld3
namespace Go.Proofs.YtncjplcefdeckaaGreatDoor
open Go.RowKit Go.Lib Go.Joins
set_option linter.unusedVariables false
set_option linter.unusedSimpArgs false

def kwA : Nat → ByteArray
  | 0 => ⟨#[]⟩
  | u => wordB (u : Int)
theorem Kw.cells {w : World} (h : Kw w) : w.cell? ⟨0, 0, none⟩ = some (.string ⟨#[]⟩) ∧ w.cell? ⟨0, 1, none⟩ = some (.string (wordB 1)) ∧ w.cell? ⟨0, 2, none⟩ = some (.string (wordB 2)) ∧ w.cell? ⟨0, 3, none⟩ = some (.string (wordB 3)) ∧ w.cell? ⟨0, 4, none⟩ = some (.string (wordB 4)) ∧ w.cell? ⟨0, 5, none⟩ = some (.string (wordB 5)) :=
  ⟨by have := World.var?_cell gKw h 0; exact this, h.cell (u := 1) (by omega) (by omega), h.cell (u := 2) (by omega) (by omega), h.cell (u := 3) (by omega) (by omega), h.cell (u := 4) (by omega) (by omega), h.cell (u := 5) (by omega) (by omega)⟩
set_option maxRecDepth 100000 in
set_option maxHeartbeats 1000000 in
theorem kindOf_any (s : ByteArray) (w : World) (hw : Kw w) :
    Calls Tryz.prog 40 #[.string s] w fun e w' => e = .returned (.int .i64 (kindW s)) ∧ w = w' := by
  obtain ⟨c0, c1, c2, c3, c4, c5⟩ := hw.cells
  have hk : ∀ x1 x2 x3 x4 x5 : ByteArray, x1 = wordB 1 → x2 = wordB 2 → x3 = wordB 3 → x4 = wordB 4 → x5 = wordB 5 → kindW s = if x1 = s then 1 else if x2 = s then 2 else if x3 = s then 3 else if x4 = s then 4 else if x5 = s then 5 else 0 := by
    rintro _ _ _ _ _ rfl rfl rfl rfl rfl; rfl
  have h0 : s.size = 0 → kindW s = 0 := fun h => by obtain rfl := str_empty_eq s h; rfl
  obtain ⟨x1, hx1⟩ : ∃ x, x = wordB 1 := ⟨_, rfl⟩
  obtain ⟨x2, hx2⟩ : ∃ x, x = wordB 2 := ⟨_, rfl⟩
  obtain ⟨x3, hx3⟩ : ∃ x, x = wordB 3 := ⟨_, rfl⟩
  obtain ⟨x4, hx4⟩ : ∃ x, x = wordB 4 := ⟨_, rfl⟩
  obtain ⟨x5, hx5⟩ : ∃ x, x = wordB 5 := ⟨_, rfl⟩
  have hkw := hk x1 x2 x3 x4 x5 hx1 hx2 hx3 hx4 hx5
  rw [← hx1] at c1; rw [← hx2] at c2; rw [← hx3] at c3; rw [← hx4] at c4; rw [← hx5] at c5
  have HK := Lib.hid hkw
  have H0 := Lib.hid h0
  clear hk h0 hx1 hx2 hx3 hx4 hx5 hkw hw
  have hix0 : ∀ w : World, (Instr.index 41 (.agg #[.string ⟨#[]⟩, .string x1, .string x2, .string x3, .string x4, .string x5]) (.int .i64 0)).run Tryz.prog w = .ok (.string ⟨#[]⟩) w := fun w => by kernel_rfl
  have hix1 : ∀ w : World, (Instr.index 41 (.agg #[.string ⟨#[]⟩, .string x1, .string x2, .string x3, .string x4, .string x5]) (.int .i64 1)).run Tryz.prog w = .ok (.string x1) w := fun w => by kernel_rfl
  have hix2 : ∀ w : World, (Instr.index 41 (.agg #[.string ⟨#[]⟩, .string x1, .string x2, .string x3, .string x4, .string x5]) (.int .i64 2)).run Tryz.prog w = .ok (.string x2) w := fun w => by kernel_rfl
  have hix3 : ∀ w : World, (Instr.index 41 (.agg #[.string ⟨#[]⟩, .string x1, .string x2, .string x3, .string x4, .string x5]) (.int .i64 3)).run Tryz.prog w = .ok (.string x3) w := fun w => by kernel_rfl
  have hix4 : ∀ w : World, (Instr.index 41 (.agg #[.string ⟨#[]⟩, .string x1, .string x2, .string x3, .string x4, .string x5]) (.int .i64 4)).run Tryz.prog w = .ok (.string x4) w := fun w => by kernel_rfl
  have hix5 : ∀ w : World, (Instr.index 41 (.agg #[.string ⟨#[]⟩, .string x1, .string x2, .string x3, .string x4, .string x5]) (.int .i64 5)).run Tryz.prog w = .ok (.string x5) w := fun w => by kernel_rfl
  go_enter Tryz.func40, Tryz.ntmps40
  go_wp2_with fail
  go_loop [6] (fun i => ∃ k : Nat, k ≤ 6 ∧ i = .int .i64 k ∧ Hid ((1 ≤ k → s.size ≠ 0) ∧ (2 ≤ k → x1 ≠ s) ∧ (3 ≤ k → x2 ≠ s) ∧ (4 ≤ k → x3 ≠ s) ∧ (5 ≤ k → x4 ≠ s) ∧ (6 ≤ k → x5 ≠ s))) (fun i => 6 - (RowKit.intOf i).toNat)
  case atStart => exact ⟨0, Nat.zero_le _, rfl, Lib.hid ⟨by omega, by omega, by omega, by omega, by omega, by omega⟩⟩
  case round =>
    obtain ⟨k, hk, rfl, HI⟩ := hrel
    rcases (by omega : k = 0 ∨ k = 1 ∨ k = 2 ∨ k = 3 ∨ k = 4 ∨ k = 5 ∨ k = 6) with rfl | rfl | rfl | rfl | rfl | rfl | rfl
    · by_cases hz : s.size = 0
      · have HZ := Lib.hid (H0.out hz)
        obtain rfl := str_empty_eq s hz
        clear hz H0
        go_wp2_with fail
        go_ret
        exact ⟨ret_int HZ.out.symm, rfl⟩
      · have hne : (s.toList == ([] : List UInt8)) = false := str_ne hz
        have hne2 : (([] : List UInt8) == s.toList) = false := by rw [beq_eq_false_iff_ne] at hne ⊢; exact fun e => hne e.symm
        have HZ := Lib.hid hz
        clear hz
        go_wp2_with fail
        go_round
        case rel => exact ⟨1, by omega, rfl, Lib.hid ⟨fun _ => HZ.out, by omega, by omega, by omega, by omega, by omega⟩⟩
        case measure => simp [RowKit.intOf]
    · by_cases hz : x1 = s
      · subst hz
        go_wp2_with fail
        go_ret
        exact ⟨ret_int (by rw [HK.out, if_pos trivial]), rfl⟩
      · have hne : (x1.toList == s.toList) = false := list_ne hz
        have HZ := Lib.hid hz
        clear hz
        go_wp2_with fail
        go_round
        case rel => exact ⟨2, by omega, rfl, Lib.hid ⟨fun _ => HI.out.1 (by omega), fun _ => HZ.out, by omega, by omega, by omega, by omega⟩⟩
        case measure => simp [RowKit.intOf]
    · by_cases hz : x2 = s
      · subst hz
        go_wp2_with fail
        go_ret
        exact ⟨ret_int (by rw [HK.out, if_neg (HI.out.2.1 (by omega)), if_pos trivial]), rfl⟩
      · have hne : (x2.toList == s.toList) = false := list_ne hz
        have HZ := Lib.hid hz
        clear hz
        go_wp2_with fail
        go_round
        case rel => exact ⟨3, by omega, rfl, Lib.hid ⟨fun _ => HI.out.1 (by omega), fun _ => HI.out.2.1 (by omega), fun _ => HZ.out, by omega, by omega, by omega⟩⟩
        case measure => simp [RowKit.intOf]
    · by_cases hz : x3 = s
      · subst hz
        go_wp2_with fail
        go_ret
        exact ⟨ret_int (by rw [HK.out, if_neg (HI.out.2.1 (by omega)), if_neg (HI.out.2.2.1 (by omega)), if_pos trivial]), rfl⟩
      · have hne : (x3.toList == s.toList) = false := list_ne hz
        have HZ := Lib.hid hz
        clear hz
        go_wp2_with fail
        go_round
        case rel => exact ⟨4, by omega, rfl, Lib.hid ⟨fun _ => HI.out.1 (by omega), fun _ => HI.out.2.1 (by omega), fun _ => HI.out.2.2.1 (by omega), fun _ => HZ.out, by omega, by omega⟩⟩
        case measure => simp [RowKit.intOf]
    · by_cases hz : x4 = s
      · subst hz
        go_wp2_with fail
        go_ret
        exact ⟨ret_int (by rw [HK.out, if_neg (HI.out.2.1 (by omega)), if_neg (HI.out.2.2.1 (by omega)), if_neg (HI.out.2.2.2.1 (by omega)), if_pos trivial]), rfl⟩
      · have hne : (x4.toList == s.toList) = false := list_ne hz
        have HZ := Lib.hid hz
        clear hz
        go_wp2_with fail
        go_round
        case rel => exact ⟨5, by omega, rfl, Lib.hid ⟨fun _ => HI.out.1 (by omega), fun _ => HI.out.2.1 (by omega), fun _ => HI.out.2.2.1 (by omega), fun _ => HI.out.2.2.2.1 (by omega), fun _ => HZ.out, by omega⟩⟩
        case measure => simp [RowKit.intOf]
    · by_cases hz : x5 = s
      · subst hz
        go_wp2_with fail
        go_ret
        exact ⟨ret_int (by rw [HK.out, if_neg (HI.out.2.1 (by omega)), if_neg (HI.out.2.2.1 (by omega)), if_neg (HI.out.2.2.2.1 (by omega)), if_neg (HI.out.2.2.2.2.1 (by omega)), if_pos trivial]), rfl⟩
      · have hne : (x5.toList == s.toList) = false := list_ne hz
        have HZ := Lib.hid hz
        clear hz
        go_wp2_with fail
        go_round
        case rel => exact ⟨6, by omega, rfl, Lib.hid ⟨fun _ => HI.out.1 (by omega), fun _ => HI.out.2.1 (by omega), fun _ => HI.out.2.2.1 (by omega), fun _ => HI.out.2.2.2.1 (by omega), fun _ => HI.out.2.2.2.2.1 (by omega), fun _ => HZ.out⟩⟩
        case measure => simp [RowKit.intOf]
    · go_wp2_with fail
      go_ret
      exact ⟨ret_int (by rw [HK.out, if_neg (HI.out.2.1 (by omega)), if_neg (HI.out.2.2.1 (by omega)), if_neg (HI.out.2.2.2.1 (by omega)), if_neg (HI.out.2.2.2.2.1 (by omega)), if_neg (HI.out.2.2.2.2.2 (by omega))]), rfl⟩
set_option maxHeartbeats 400000 in
theorem numberIn_any (s : ByteArray) (hs : s.size ≤ 1048576) (w : World) (ht : Tab w) (he : Errs w) :
    Calls Tryz.prog 41 #[.string s] w fun e w' => e = .returned (.int .i64 (rdN s)) ∧ Below w.heap.size w w' := by
  have HC := Lib.hid ((implParseInt_any s hs w ht he).mono fun e w' (h : PR s e ∧ Below w.heap.size w w') => (⟨PR_val h.1, h.2⟩ : e = .returned (.tuple #[.int .i64 (rdN s), .bool (rdB s)]) ∧ Below w.heap.size w w'))
  generalize rdN s = n at HC
  generalize rdB s = b at HC
  clear ht he hs
  go_enter Tryz.func41, Tryz.ntmps41
  go_wp2_with fail
  refine HC.out.mono ?_
  rintro e w1 ⟨rfl, l1⟩
  go_wp2_with fail
  go_ret
  exact ⟨rfl, l1⟩
/-- The library's bound on a search holds some number. -/
def MLOk (w : World) : Prop := ∃ m, w.cell? ⟨2, 0, none⟩ = some (.int .i64 m)
theorem MLOk.below {w w' : World} (h : MLOk w) (hb : Below w.heap.size w w') : MLOk w' := by
  obtain ⟨m, hm⟩ := h
  exact ⟨m, (hb.cell (p := ⟨2, 0, none⟩) (World.block_lt_of_cell? w _ hm)).trans hm⟩
theorem mlOk_of {w : World} (h : w.ShapedOpen Tryz.prog) : MLOk w := Tryz.laysM147.s1_3 w h
theorem cut4_any (s : ByteArray) (hs : s.size ≤ 1048576) (w : World) (hm : MLOk w) :
    Calls Tryz.prog 39 #[.string s, .string ⟨#[45]⟩] w fun e w' => ∃ b, e = .returned (.tuple #[.string (preB s), .string (posB s), .bool b]) ∧ Below w.heap.size w w' := by
  obtain ⟨m, hm⟩ := hm
  refine (Tryz.strings_Cut s ⟨#[45]⟩ m w (by omega) hm).mono fun e w' h => ?_
  obtain ⟨h1, q, h2⟩ := h
  exact ⟨_, h1, by rw [h2]; exact bdrew _ _⟩
theorem splitK_len (sep : List UInt8) (sv : Nat) : ∀ (k : Nat) (l : List UInt8), ∀ p ∈ Lib.splitK sep sv k l, p.length ≤ l.length
  | 0, l, p, hp => by
    have : p = l := by simpa [Lib.splitK] using hp
    rw [this]; exact Nat.le_refl _
  | k + 1, l, p, hp => by
    rw [Lib.splitK] at hp
    split at hp
    · have : p = l := by simpa using hp
      rw [this]; exact Nat.le_refl _
    · rcases List.mem_cons.1 hp with rfl | hp
      · rw [List.length_take]; omega
      · have := splitK_len sep sv k _ p hp
        rw [List.length_drop] at this
        omega
theorem pieces_facts (s : ByteArray) : ∃ P : List ByteArray, P = Lib.splitB ⟨#[32]⟩ 0 (min 5 (s.size + 1) - 1) s ∧ P.length ≤ min 5 (s.size + 1) ∧ P.map (·.data.toList) = Lib.splitK [32] 0 (min 5 (s.size + 1) - 1) s.data.toList ∧ ∀ i, (P.getD i ⟨#[]⟩).size ≤ s.size := by
  have h1 := Lib.splitB_length_le ⟨#[32]⟩ 0 (min 5 (s.size + 1) - 1) s
  have h2 := Lib.splitB_data ⟨#[32]⟩ 0 (min 5 (s.size + 1) - 1) s
  refine ⟨_, rfl, by omega, h2, fun i => ?_⟩
  generalize Lib.splitB ⟨#[32]⟩ 0 (min 5 (s.size + 1) - 1) s = P at h1 h2
  rw [List.getD_eq_getElem?_getD]
  cases h : P[i]? with
  | none => exact Nat.zero_le _
  | some x =>
    have hm : x.data.toList ∈ P.map (·.data.toList) := List.mem_map.2 ⟨x, List.mem_of_getElem? h, rfl⟩
    rw [h2] at hm
    exact splitK_len _ _ _ _ _ hm
theorem pieces_cell4 {W0 : World} {P : List ByteArray} {N : Nat} {j : Nat} (hj : j < P.length) : (W0.alloc (.cells (Lib.cellsOf P N) 9)).cell? ⟨W0.heap.size, j, none⟩ = some (.string (P.getD j ⟨#[]⟩)) := by
  rw [World.cell?_alloc_new]
  unfold Lib.cellsOf
  rw [List.getElem?_toArray, List.getElem?_append_left (by simpa using hj), List.getElem?_map, List.getD_eq_getElem?_getD]
  rw [List.getElem?_eq_getElem hj]
  rfl
theorem preB_size (s : ByteArray) : (preB s).size ≤ s.size := by
  show (Lib.cut s.data.toList [45]).1.toArray.size ≤ s.data.toList.length
  unfold Lib.cut
  split
  · simp <;> omega
  · simp
theorem posB_size (s : ByteArray) : (posB s).size ≤ s.size := by
  show (Lib.cut s.data.toList [45]).2.1.toArray.size ≤ s.data.toList.length
  unfold Lib.cut
  split
  · simp <;> omega
  · simp
theorem Pb.grow2 {w w' : World} {g g2 : Nat} {k n t l : Int} {d : ByteArray} (h : Pb w g k n t l d) (hg : w.grownBy w' (some g2)) (hne : g ≠ g2) : Pb w' g k n t l d := (hg.block g h.lt (by intro e; exact hne (Option.some.inj e))).trans h
theorem Pb.store' {w : World} {g : Nat} {k n t l k' n' t' l' : Int} {d : ByteArray} (h : Pb w g k n t l d) {d' : ByteArray} :
    Pb (((((w.setCell ⟨g, 0, none⟩ (.int .i64 k')).setCell ⟨g, 1, none⟩ (.int .i64 n')).setCell ⟨g, 2, none⟩ (.int .i64 t')).setCell ⟨g, 3, none⟩ (.int .i64 l')).setCell ⟨g, 4, none⟩ (.string d')) g k' n' t' l' d' := h.store.1
/-- A zero packet that the call has made, behind a call that keeps what was there. -/
def Qz (W0 w : World) (g : Nat) : Prop := Pb w g 0 0 0 0 ⟨#[]⟩ ∧ W0.heap.size ≤ g
theorem qz_new {W0 W w5 : World} (hb : Below W0.heap.size W0 W) (l5 : Below (W.alloc (.cells #[.int .i64 0, .int .i64 0, .int .i64 0, .int .i64 0, .string ⟨#[]⟩] 25)).heap.size (W.alloc (.cells #[.int .i64 0, .int .i64 0, .int .i64 0, .int .i64 0, .string ⟨#[]⟩] 25)) w5) : Qz W0 w5 W.heap.size :=
  ⟨Pb.below (heap_new1 W 0 0 0 0 ⟨#[]⟩) l5 (by simp), hb.size⟩
theorem qz_new' {W0 W w5 : World} (hb : Below W0.heap.size W0 W) (l5 : Below ((W.alloc (.cells #[.int .i64 0, .int .i64 0, .int .i64 0, .int .i64 0, .string ⟨#[]⟩] 25)).drew).heap.size ((W.alloc (.cells #[.int .i64 0, .int .i64 0, .int .i64 0, .int .i64 0, .string ⟨#[]⟩] 25)).drew) w5) : Qz W0 w5 W.heap.size :=
  ⟨Pb.below (w := (W.alloc (.cells #[.int .i64 0, .int .i64 0, .int .i64 0, .int .i64 0, .string ⟨#[]⟩] 25)).drew) (heap_new1 W 0 0 0 0 ⟨#[]⟩) l5 (by show _ < (W.alloc _).heap.size; simp), hb.size⟩
theorem qz_call {W0 W w5 : World} {g : Nat} (h : Qz W0 W g) (l5 : Below W.heap.size W w5) : Qz W0 w5 g := ⟨h.1.below l5 h.1.lt, h.2⟩
theorem qz_call' {W0 W w5 : World} {g : Nat} (h : Qz W0 W g) (l5 : Below W.drew.heap.size W.drew w5) : Qz W0 w5 g := ⟨Pb.below (w := W.drew) h.1 l5 h.1.lt, h.2⟩
theorem below_store5 {W0 w : World} {g : Nat} (hb : Below W0.heap.size W0 w) (h : Qz W0 w g) {k' n' t' l' : Int} {d' : ByteArray} :
    Below W0.heap.size W0 (((((w.setCell ⟨g, 0, none⟩ (.int .i64 k')).setCell ⟨g, 1, none⟩ (.int .i64 n')).setCell ⟨g, 2, none⟩ (.int .i64 t')).setCell ⟨g, 3, none⟩ (.int .i64 l')).setCell ⟨g, 4, none⟩ (.string d')) :=
  hb.grown (h.1.store (k' := k') (n' := n') (t' := t') (l' := l') (d' := d')).2 hb.size (fun k hk => by have e : g = k := Option.some.inj hk; have := h.2; omega)
/-- What the line reader finds, if the text is a line. -/
def fldsL (s : ByteArray) (k n t l : Int) (d : ByteArray) : Prop := ∀ k' n' t' l' d', IsLine s (k', n', t', l', d') → k = k' ∧ n = n' ∧ t = t' ∧ l = l' ∧ d = d'
set_option maxRecDepth 100000 in
set_option maxHeartbeats 8000000 in
theorem packetInLine_any (s : ByteArray) (w : World) (hs : s.size ≤ 1048576) (hm : MLOk w) (ht : Tab w) (he : Errs w) (hw : Kw w) :
    Calls Tryz.prog 21 #[.string s] w fun e w' => ∃ (k n t l : Int) (d : ByteArray), e = .returned (pv k n t l d) ∧ d.size ≤ 1048576 ∧ fldsL s k n t l d ∧ Below w.heap.size w w' := by
  obtain ⟨W0, hW0⟩ : ∃ W0, W0 = w.alloc (.cells #[.int .i64 0, .int .i64 0, .int .i64 0, .int .i64 0, .string ⟨#[]⟩] 25) := ⟨_, rfl⟩
  have HA : Hid (Below w.heap.size w W0) := Lib.hid (by rw [hW0]; exact (Below.refl _ _).alloc (Nat.le_refl _) _)
  have HR0 : Hid (Pb W0 w.heap.size 0 0 0 0 ⟨#[]⟩) := Lib.hid (by rw [hW0]; exact heap_new1 w 0 0 0 0 ⟨#[]⟩)
  have HM0 := Lib.hid (hm.below HA.out)
  have HT0 := Lib.hid (ht.below HA.out)
  have HE0 := Lib.hid (he.below HA.out)
  have HK0 := Lib.hid (hw.below HA.out)
  obtain ⟨P, hP, hPn, hPk, hPz⟩ := pieces_facts s
  have HF := Lib.hid (fun k n t l d => line_flds (k := k) (n := n) (t := t) (l := l) (d := d) hPk)
  have HZ := Lib.hid (fun i => Nat.le_trans (hPz i) hs)
  have HC : Hid (Calls Tryz.prog 38 #[.string s, .string ⟨#[32]⟩, .int .i64 5] W0 fun e w' => e = .returned (.slice (some ⟨W0.heap.size, 0, none⟩) P.length (min 5 (s.size + 1))) ∧ w' = W0.alloc (.cells (Lib.cellsOf P (min 5 (s.size + 1))) 9)) := by
    obtain ⟨m, hm⟩ := HM0.out
    rw [hP]
    exact Lib.hid (Tryz.strings_SplitN s ⟨#[32]⟩ 5 m W0 (by omega) hm (by decide) (by omega) (by omega))
  obtain ⟨N, hN⟩ : ∃ N, N = min 5 (s.size + 1) := ⟨_, rfl⟩
  rw [← hN] at HC hPn
  have hN5 : N ≤ 5 := by omega
  obtain ⟨m, hmP⟩ : ∃ m, m = P.length := ⟨_, rfl⟩
  rw [← hmP] at HC hPn
  have HMP := Lib.hid hmP
  have HW0 := Lib.hid hW0
  clear hW0 hm ht he hw hP hPk hPz hN hmP
  go_enter Tryz.func21, Tryz.ntmps21
  go_wp2_with fail
  rw [← HW0.out]
  refine HC.out.mono ?_
  rintro e W1 ⟨rfl, hW1⟩
  have HB01 : Hid (Below W0.heap.size W0 W1) := Lib.hid (by rw [hW1]; exact (Below.refl _ _).alloc (Nat.le_refl _) _)
  have HB1 := Lib.hid (HA.out.trans (HB01.out.mono HA.out.size))
  have HR1 := Lib.hid (HR0.out.below HB01.out HR0.out.lt)
  have HCe : Hid (∀ j, j < m → W1.cell? ⟨W0.heap.size, j, none⟩ = some (.string (P.getD j ⟨#[]⟩))) := Lib.hid (fun j hj => by rw [hW1]; exact pieces_cell4 (by rw [← HMP.out]; exact hj))
  have hg1 : W0.heap.size < W1.heap.size := by rw [hW1]; simp
  have HM1 := Lib.hid (HM0.out.below HB01.out)
  have HT1 := Lib.hid (HT0.out.below HB01.out)
  have HE1 := Lib.hid (HE0.out.below HB01.out)
  have HK1 := Lib.hid (HK0.out.below HB01.out)
  obtain ⟨g, hg⟩ : ∃ g, g = W0.heap.size := ⟨_, rfl⟩
  have hrg : w.heap.size < g := by rw [hg]; exact HR0.out.lt
  rw [← hg] at HCe hg1 ⊢
  clear hg hW1 HC HM0 HT0 HE0 HK0 HA HR0 HW0 HB01
  by_cases h4 : 4 ≤ m
  · have h4' : ¬ (m : Int) < 4 := by omega
    have i0 : 0 < m := by omega
    have i1 : (1 : Int) < (m : Int) := by omega
    have i3 : (3 : Int) < (m : Int) := by omega
    have c3 := HCe.out 3 (by omega)
    obtain ⟨p0, hp0⟩ : ∃ p, p = P.getD 0 ⟨#[]⟩ := ⟨_, rfl⟩
    obtain ⟨p1, hp1⟩ : ∃ p, p = P.getD 1 ⟨#[]⟩ := ⟨_, rfl⟩
    obtain ⟨p3, hp3⟩ : ∃ p, p = P.getD 3 ⟨#[]⟩ := ⟨_, rfl⟩
    obtain ⟨p4, hp4⟩ : ∃ p, p = P.getD 4 ⟨#[]⟩ := ⟨_, rfl⟩
    have z1 : p1.size ≤ 1048576 := by rw [hp1]; exact HZ.out 1
    have z3 : p3.size ≤ 1048576 := by rw [hp3]; exact HZ.out 3
    have HZ4 : Hid (p4.size ≤ 1048576) := Lib.hid (by rw [hp4]; exact HZ.out 4)
    have HPs := Lib.hid (show p0 = P.getD 0 ⟨#[]⟩ ∧ p1 = P.getD 1 ⟨#[]⟩ ∧ p3 = P.getD 3 ⟨#[]⟩ ∧ p4 = P.getD 4 ⟨#[]⟩ from ⟨hp0, hp1, hp3, hp4⟩)
    rw [← hp3] at c3
    have HCa : Hid (W1.cell? ⟨g, 0, none⟩ = some (.string p0) ∧ W1.cell? ⟨g, 1, none⟩ = some (.string p1)) := Lib.hid ⟨by rw [hp0]; exact HCe.out 0 (by omega), by rw [hp1]; exact HCe.out 1 (by omega)⟩
    have HCd : Hid (m = 5 → W1.cell? ⟨g, 4, none⟩ = some (.string p4)) := Lib.hid (fun h => by rw [hp4]; exact HCe.out 4 (by omega))
    have HCut := Lib.hid (cut4_any p3 z3 W1 HM1.out)
    have zt : (preB p3).size ≤ 1048576 := Nat.le_trans (preB_size p3) z3
    have zl : (posB p3).size ≤ 1048576 := Nat.le_trans (posB_size p3) z3
    have HFl : Hid (∀ k n t l d, IsLine s (k, n, t, l, d) → 4 ≤ m ∧ kindW p0 = k ∧ rdN p1 = n ∧ rdN (preB p3) = t ∧ rdN (posB p3) = l ∧ (if m = 5 then p4 else ⟨#[]⟩) = d) := Lib.hid (fun k n t l d h => by rw [HMP.out, hp0, hp1, hp3, hp4]; exact HF.out k n t l d h)
    generalize preB p3 = tr at HCut HFl zt
    generalize posB p3 = le at HCut HFl zl
    clear hp0 hp1 hp3 hp4 HPs HF HCe HZ HM1 z3
    go_wp2_with fail
    refine HCut.out.mono ?_
    rintro e W2 ⟨b2, rfl, l2⟩
    have HB2 := Lib.hid (HB1.out.trans (l2.mono HB1.out.size))
    have HR2 := Lib.hid (HR1.out.below l2 HR1.out.lt)
    have HT2 := Lib.hid (HT1.out.below l2)
    have HE2 := Lib.hid (HE1.out.below l2)
    have HK2 := Lib.hid (HK1.out.below l2)
    have HC2 : Hid (W2.cell? ⟨g, 0, none⟩ = some (.string p0) ∧ W2.cell? ⟨g, 1, none⟩ = some (.string p1)) := Lib.hid ⟨(l2.cell (p := ⟨g, 0, none⟩) hg1).trans HCa.out.1, (l2.cell (p := ⟨g, 1, none⟩) hg1).trans HCa.out.2⟩
    have HD2 : Hid (m = 5 → W2.cell? ⟨g, 4, none⟩ = some (.string p4)) := Lib.hid (fun h => (l2.cell (p := ⟨g, 4, none⟩) hg1).trans (HCd.out h))
    have hg2 : g < W2.heap.size := Nat.lt_of_lt_of_le hg1 l2.size
    clear l2 HB1 HR1 HT1 HE1 HK1 HCa HCd HCut hg1 c3
    have HKe : Hid (∀ w' : World, Below W2.heap.size W2 w' → (w'.cell? ⟨g, 0, none⟩ = some (.string p0) ∧ w'.cell? ⟨g, 1, none⟩ = some (.string p1) ∧ Below W2.heap.size W2 w')) := Lib.hid (fun w' hb => ⟨(hb.cell (p := ⟨g, 0, none⟩) hg2).trans HC2.out.1, (hb.cell (p := ⟨g, 1, none⟩) hg2).trans HC2.out.2, hb⟩)
    go_upto_region 5 with fail
    go_cut [7] from 22 to 35 (fun v wx => ∃ q, v = .pointer (some ⟨q, 0, none⟩) ∧ W2.heap.size ≤ q ∧ Hid (Pb wx q (kindW p0) (rdN p1) (rdN tr) (rdN le) ⟨#[]⟩) ∧ Hid (Below W2.heap.size W2 wx))
    case first => as_aux_lemma =>
      refine wp_region_held_drew (S := fun w' => w'.cell? ⟨g, 0, none⟩ = some (.string p0) ∧ w'.cell? ⟨g, 1, none⟩ = some (.string p1) ∧ Below W2.heap.size W2 w') (by kernel_rfl) ?_ (fun hHeld => ?_)
      · exact HKe.out _ (Below.drew (Below.refl _ _))
      obtain ⟨Wd, hWd⟩ : ∃ Wd, Wd = W2.drew := ⟨_, rfl⟩
      have hbd : Below W2.heap.size W2 Wd := by rw [hWd]; exact Below.drew (Below.refl _ _)
      rw [← hWd] at hHeld ⊢
      clear hWd
      refine wpAnyH_take (i := 0) (v := ?vn1) rfl (by kernel_rfl) (by kernel_rfl) (by kernel_rfl) (fun _ _ _ h => h) (Or.inl ⟨by rfl, ?hyn1⟩) hHeld ?restn1
      case hyn1 =>
        intro w' hSw
        (try dsimp only at hSw)
        go_simp
        (try with_reducible rfl)
      (try simp only [Act.put, List.setIfInBounds_toArray, List.set_cons_zero, List.set_cons_succ])
      refine wpAnyH_take (i := 1) (v := ?vn2) rfl (by kernel_rfl) (by kernel_rfl) (by kernel_rfl) (fun _ _ _ h => h) (Or.inl ⟨by rfl, ?hyn2⟩) hHeld ?restn2
      case hyn2 =>
        intro w' hSw
        (try dsimp only at hSw)
        go_simp
        (try with_reducible rfl)
      (try simp only [Act.put, List.setIfInBounds_toArray, List.set_cons_zero, List.set_cons_succ])
      refine wpAnyH_take (i := 2) (v := ?vn3) rfl (by kernel_rfl) (by kernel_rfl) (by kernel_rfl) (fun _ _ _ h => h) (Or.inl ⟨by rfl, ?hyn3⟩) hHeld ?restn3
      case hyn3 =>
        intro w' hSw
        (try dsimp only at hSw)
        go_simp
        (try with_reducible rfl)
      (try simp only [Act.put, List.setIfInBounds_toArray, List.set_cons_zero, List.set_cons_succ])
      refine wpAnyH_take (i := 4) (v := ?vn4) rfl (by kernel_rfl) (by kernel_rfl) (by kernel_rfl) (fun _ _ _ h => h) (Or.inl ⟨by rfl, ?hyn4⟩) hHeld ?restn4
      case hyn4 =>
        intro w' hSw
        (try dsimp only at hSw)
        go_simp
        (try with_reducible rfl)
      (try simp only [Act.put, List.setIfInBounds_toArray, List.set_cons_zero, List.set_cons_succ])
      refine wpAnyH_take (i := 5) (v := ?vn5) rfl (by kernel_rfl) (by kernel_rfl) (by kernel_rfl) (fun _ _ _ h => h) (Or.inl ⟨by rfl, ?hyn5⟩) hHeld ?restn5
      case hyn5 =>
        intro w' hSw
        (try dsimp only at hSw)
        go_simp
        (try with_reducible rfl)
      (try simp only [Act.put, List.setIfInBounds_toArray, List.set_cons_zero, List.set_cons_succ])
      refine wpAnyH_take (i := 6) (v := ?vn6) rfl (by kernel_rfl) (by kernel_rfl) (by kernel_rfl) (fun _ _ _ h => h) (Or.inl ⟨by rfl, ?hyn6⟩) hHeld ?restn6
      case hyn6 =>
        intro w' hSw
        (try dsimp only at hSw)
        go_simp
        (try with_reducible rfl)
      (try simp only [Act.put, List.setIfInBounds_toArray, List.set_cons_zero, List.set_cons_succ])
      refine wpAnyH_take (i := 8) (v := ?vn7) rfl (by kernel_rfl) (by kernel_rfl) (by kernel_rfl) (fun _ _ _ h => h) (Or.inl ⟨by rfl, ?hyn7⟩) hHeld ?restn7
      case hyn7 =>
        intro w' hSw
        (try dsimp only at hSw)
        go_simp
        (try with_reducible rfl)
      (try simp only [Act.put, List.setIfInBounds_toArray, List.set_cons_zero, List.set_cons_succ])
      refine wpAnyH_take (i := 10) (v := ?vn8) rfl (by kernel_rfl) (by kernel_rfl) (by kernel_rfl) (fun _ _ _ h => h) (Or.inl ⟨by rfl, ?hyn8⟩) hHeld ?restn8
      case hyn8 =>
        intro w' hSw
        (try dsimp only at hSw)
        go_simp
        (try with_reducible rfl)
      (try simp only [Act.put, List.setIfInBounds_toArray, List.set_cons_zero, List.set_cons_succ])
      refine wpAnyH_ready (rs := [3, 13]) (by kernel_rfl) (by simp) ?_
      refine AllReadyH.cons rfl (fun K hK => ?_) (AllReadyH.cons rfl (fun K hK => ?_) AllReadyH.nil)
      · go_simp
        go_at_call 40
        refine (kindOf_any _ _ (HK2.out.below hbd)).mono ?_
        rintro e _ ⟨rfl, rfl⟩
        (try go_wp2_with fail)
        refine hK.out _ _ ?Sn9 (fun hHeld => ?restn9)
        case Sn9 =>
          (try dsimp only)
          exact HKe.out _ hbd
        clear hK K
        (try simp only [Act.put, List.setIfInBounds_toArray, List.set_cons_zero, List.set_cons_succ])
        refine wpAnyH_ready (rs := [7, 13]) (by kernel_rfl) (by simp) ?_
        refine AllReadyH.cons rfl (fun K hK => ?_) (AllReadyH.cons rfl (fun K hK => ?_) AllReadyH.nil)
        · go_simp
          go_at_call 41
          refine (numberIn_any _ (by assumption) _ (HT2.out.below hbd) (HE2.out.below hbd)).mono ?_
          rintro e w11 ⟨rfl, l11⟩
          have hb11 := below_callL hbd l11
          clear l11
          (try go_wp2_with fail)
          refine hK.out _ _ ?Sn10 (fun hHeld => ?restn10)
          case Sn10 =>
            (try dsimp only)
            exact HKe.out _ hb11
          clear hK K
          (try simp only [Act.put, List.setIfInBounds_toArray, List.set_cons_zero, List.set_cons_succ])
          refine wpAnyH_ready (rs := [9, 13]) (by kernel_rfl) (by simp) ?_
          refine AllReadyH.cons rfl (fun K hK => ?_) (AllReadyH.cons rfl (fun K hK => ?_) AllReadyH.nil)
          · go_simp
            go_at_call 41
            refine (numberIn_any _ (by assumption) _ (HT2.out.below hb11) (HE2.out.below hb11)).mono ?_
            rintro e w12 ⟨rfl, l12⟩
            have hb12 := below_callL hb11 l12
            clear l12
            (try go_wp2_with fail)
            refine hK.out _ _ ?Sn11 (fun hHeld => ?restn11)
            case Sn11 =>
              (try dsimp only)
              exact HKe.out _ hb12
            clear hK K
            (try simp only [Act.put, List.setIfInBounds_toArray, List.set_cons_zero, List.set_cons_succ])
            refine wpAnyH_ready (rs := [11, 13]) (by kernel_rfl) (by simp) ?_
            refine AllReadyH.cons rfl (fun K hK => ?_) (AllReadyH.cons rfl (fun K hK => ?_) AllReadyH.nil)
            · go_simp
              go_at_call 41
              refine (numberIn_any _ (by assumption) _ (HT2.out.below hb12) (HE2.out.below hb12)).mono ?_
              rintro e w13 ⟨rfl, l13⟩
              have hb13 := below_callL hb12 l13
              clear l13
              (try go_wp2_with fail)
              refine hK.out _ _ ?Sn12 (fun hHeld => ?restn12)
              case Sn12 =>
                (try dsimp only)
                exact HKe.out _ hb13
              clear hK K
              (try simp only [Act.put, List.setIfInBounds_toArray, List.set_cons_zero, List.set_cons_succ])
              refine wpAnyH_take (i := 12) (v := ?vn13) rfl (by kernel_rfl) (by kernel_rfl) (by kernel_rfl) (fun _ _ _ h => h) (Or.inl ⟨by rfl, ?hyn13⟩) hHeld ?restn13
              case hyn13 =>
                intro w' hSw
                (try dsimp only at hSw)
                go_simp
                (try with_reducible rfl)
              (try simp only [Act.put, List.setIfInBounds_toArray, List.set_cons_zero, List.set_cons_succ])
              refine wpAnyH_ready (rs := [13]) (by kernel_rfl) (by simp) ?_
              refine AllReadyH.cons rfl (fun K hK => ?_) AllReadyH.nil
              go_simp
              obtain ⟨W14, hW14⟩ : ∃ W, W = World.alloc w13 (.cells #[.int .i64 0, .int .i64 0, .int .i64 0, .int .i64 0, .string ⟨#[]⟩] 25) := ⟨_, rfl⟩
              have hq14 : Hid (Qz W2 W14 (w13).heap.size) := Lib.hid (by rw [hW14]; exact ⟨heap_new1 _ _ _ _ _ _, hb13.size⟩)
              have hb14 : Below W2.heap.size W2 W14 := by rw [hW14]; exact hb13.alloc hb13.size _
              rw [← hW14]
              obtain ⟨q, hq⟩ : ∃ q, q = (w13).heap.size := ⟨_, rfl⟩
              rw [← hq] at hq14 ⊢
              clear hW14 hq
              refine hK.out _ _ ?Sn14 (fun hHeld => ?restn14)
              case Sn14 =>
                (try dsimp only)
                exact HKe.out _ hb14
              clear hK K
              (try simp only [Act.put, List.setIfInBounds_toArray, List.set_cons_zero, List.set_cons_succ])
              obtain ⟨q0, q1, q2, q3, q4⟩ := hq14.out.1.cells
              have f0 := hq14.out.1.free 0
              have f1 := hq14.out.1.free 1
              have f2 := hq14.out.1.free 2
              have f3 := hq14.out.1.free 3
              have f4 := hq14.out.1.free 4
              refine wpAnyH_ready (rs := [14]) (by kernel_rfl) (by simp) ?_
              refine AllReadyH.cons rfl (fun K hK => ?_) AllReadyH.nil
              go_simp
              refine hK.out _ _ ?Sn15 (fun hHeld => ?restn15)
              case Sn15 =>
                (try dsimp only)
                exact HKe.out _ (below_store5 hb14 hq14.out)
              clear hK K
              (try simp only [Act.put, List.setIfInBounds_toArray, List.set_cons_zero, List.set_cons_succ])
              (try simp only [List.getElem_toArray, List.getElem_cons_succ, List.getElem_cons_zero, Act.put, List.setIfInBounds_toArray, List.set_cons_zero, List.set_cons_succ])
              refine wpAnyH_done (by kernel_rfl) ?_ _
              go_wp2_with fail
              go_meet
              case rel => exact ⟨q, rfl, hq14.out.2, Lib.hid hq14.out.1.store', Lib.hid (below_store5 hb14 hq14.out)⟩
            · go_simp
              obtain ⟨W13, hW13⟩ : ∃ W, W = World.alloc w12 (.cells #[.int .i64 0, .int .i64 0, .int .i64 0, .int .i64 0, .string ⟨#[]⟩] 25) := ⟨_, rfl⟩
              have hq13 : Hid (Qz W2 W13 (w12).heap.size) := Lib.hid (by rw [hW13]; exact ⟨heap_new1 _ _ _ _ _ _, hb12.size⟩)
              have hb13 : Below W2.heap.size W2 W13 := by rw [hW13]; exact hb12.alloc hb12.size _
              rw [← hW13]
              obtain ⟨q, hq⟩ : ∃ q, q = (w12).heap.size := ⟨_, rfl⟩
              rw [← hq] at hq13 ⊢
              clear hW13 hq
              refine hK.out _ _ ?Sn16 (fun hHeld => ?restn16)
              case Sn16 =>
                (try dsimp only)
                exact HKe.out _ hb13
              clear hK K
              (try simp only [Act.put, List.setIfInBounds_toArray, List.set_cons_zero, List.set_cons_succ])
              refine wpAnyH_ready (rs := [11]) (by kernel_rfl) (by simp) ?_
              refine AllReadyH.cons rfl (fun K hK => ?_) AllReadyH.nil
              go_simp
              go_at_call 41
              refine (numberIn_any _ (by assumption) _ (HT2.out.below hb13) (HE2.out.below hb13)).mono ?_
              rintro e w14 ⟨rfl, l14⟩
              have hb14 := below_callL hb13 l14
              have hq14 := Lib.hid (qz_call hq13.out l14)
              clear l14
              (try go_wp2_with fail)
              refine hK.out _ _ ?Sn17 (fun hHeld => ?restn17)
              case Sn17 =>
                (try dsimp only)
                exact HKe.out _ hb14
              clear hK K
              (try simp only [Act.put, List.setIfInBounds_toArray, List.set_cons_zero, List.set_cons_succ])
              refine wpAnyH_take (i := 12) (v := ?vn18) rfl (by kernel_rfl) (by kernel_rfl) (by kernel_rfl) (fun _ _ _ h => h) (Or.inl ⟨by rfl, ?hyn18⟩) hHeld ?restn18
              case hyn18 =>
                intro w' hSw
                (try dsimp only at hSw)
                go_simp
                (try with_reducible rfl)
              (try simp only [Act.put, List.setIfInBounds_toArray, List.set_cons_zero, List.set_cons_succ])
              obtain ⟨q0, q1, q2, q3, q4⟩ := hq14.out.1.cells
              have f0 := hq14.out.1.free 0
              have f1 := hq14.out.1.free 1
              have f2 := hq14.out.1.free 2
              have f3 := hq14.out.1.free 3
              have f4 := hq14.out.1.free 4
              refine wpAnyH_ready (rs := [14]) (by kernel_rfl) (by simp) ?_
              refine AllReadyH.cons rfl (fun K hK => ?_) AllReadyH.nil
              go_simp
              refine hK.out _ _ ?Sn19 (fun hHeld => ?restn19)
              case Sn19 =>
                (try dsimp only)
                exact HKe.out _ (below_store5 hb14 hq14.out)
              clear hK K
              (try simp only [Act.put, List.setIfInBounds_toArray, List.set_cons_zero, List.set_cons_succ])
              (try simp only [List.getElem_toArray, List.getElem_cons_succ, List.getElem_cons_zero, Act.put, List.setIfInBounds_toArray, List.set_cons_zero, List.set_cons_succ])
              refine wpAnyH_done (by kernel_rfl) ?_ _
              go_wp2_with fail
              go_meet
              case rel => exact ⟨q, rfl, hq14.out.2, Lib.hid hq14.out.1.store', Lib.hid (below_store5 hb14 hq14.out)⟩
          · go_simp
            obtain ⟨W12, hW12⟩ : ∃ W, W = World.alloc w11 (.cells #[.int .i64 0, .int .i64 0, .int .i64 0, .int .i64 0, .string ⟨#[]⟩] 25) := ⟨_, rfl⟩
            have hq12 : Hid (Qz W2 W12 (w11).heap.size) := Lib.hid (by rw [hW12]; exact ⟨heap_new1 _ _ _ _ _ _, hb11.size⟩)
            have hb12 : Below W2.heap.size W2 W12 := by rw [hW12]; exact hb11.alloc hb11.size _
            rw [← hW12]
            obtain ⟨q, hq⟩ : ∃ q, q = (w11).heap.size := ⟨_, rfl⟩
            rw [← hq] at hq12 ⊢
            clear hW12 hq
            refine hK.out _ _ ?Sn20 (fun hHeld => ?restn20)
            case Sn20 =>
              (try dsimp only)
              exact HKe.out _ hb12
            clear hK K
            (try simp only [Act.put, List.setIfInBounds_toArray, List.set_cons_zero, List.set_cons_succ])
            refine wpAnyH_ready (rs := [9]) (by kernel_rfl) (by simp) ?_
            refine AllReadyH.cons rfl (fun K hK => ?_) AllReadyH.nil
            go_simp
            go_at_call 41
            refine (numberIn_any _ (by assumption) _ (HT2.out.below hb12) (HE2.out.below hb12)).mono ?_
            rintro e w13 ⟨rfl, l13⟩
            have hb13 := below_callL hb12 l13
            have hq13 := Lib.hid (qz_call hq12.out l13)
            clear l13
            (try go_wp2_with fail)
            refine hK.out _ _ ?Sn21 (fun hHeld => ?restn21)
            case Sn21 =>
              (try dsimp only)
              exact HKe.out _ hb13
            clear hK K
            (try simp only [Act.put, List.setIfInBounds_toArray, List.set_cons_zero, List.set_cons_succ])
            refine wpAnyH_ready (rs := [11]) (by kernel_rfl) (by simp) ?_
            refine AllReadyH.cons rfl (fun K hK => ?_) AllReadyH.nil
            go_simp
            go_at_call 41
            refine (numberIn_any _ (by assumption) _ (HT2.out.below hb13) (HE2.out.below hb13)).mono ?_
            rintro e w14 ⟨rfl, l14⟩
            have hb14 := below_callL hb13 l14
            have hq14 := Lib.hid (qz_call hq13.out l14)
            clear l14
            (try go_wp2_with fail)
            refine hK.out _ _ ?Sn22 (fun hHeld => ?restn22)
            case Sn22 =>
              (try dsimp only)
              exact HKe.out _ hb14
            clear hK K
            (try simp only [Act.put, List.setIfInBounds_toArray, List.set_cons_zero, List.set_cons_succ])
            refine wpAnyH_take (i := 12) (v := ?vn23) rfl (by kernel_rfl) (by kernel_rfl) (by kernel_rfl) (fun _ _ _ h => h) (Or.inl ⟨by rfl, ?hyn23⟩) hHeld ?restn23
            case hyn23 =>
              intro w' hSw
              (try dsimp only at hSw)
              go_simp
              (try with_reducible rfl)
            (try simp only [Act.put, List.setIfInBounds_toArray, List.set_cons_zero, List.set_cons_succ])
            obtain ⟨q0, q1, q2, q3, q4⟩ := hq14.out.1.cells
            have f0 := hq14.out.1.free 0
            have f1 := hq14.out.1.free 1
            have f2 := hq14.out.1.free 2
            have f3 := hq14.out.1.free 3
            have f4 := hq14.out.1.free 4
            refine wpAnyH_ready (rs := [14]) (by kernel_rfl) (by simp) ?_
            refine AllReadyH.cons rfl (fun K hK => ?_) AllReadyH.nil
            go_simp
            refine hK.out _ _ ?Sn24 (fun hHeld => ?restn24)
            case Sn24 =>
              (try dsimp only)
              exact HKe.out _ (below_store5 hb14 hq14.out)
            clear hK K
            (try simp only [Act.put, List.setIfInBounds_toArray, List.set_cons_zero, List.set_cons_succ])
            (try simp only [List.getElem_toArray, List.getElem_cons_succ, List.getElem_cons_zero, Act.put, List.setIfInBounds_toArray, List.set_cons_zero, List.set_cons_succ])
            refine wpAnyH_done (by kernel_rfl) ?_ _
            go_wp2_with fail
            go_meet
            case rel => exact ⟨q, rfl, hq14.out.2, Lib.hid hq14.out.1.store', Lib.hid (below_store5 hb14 hq14.out)⟩
        · go_simp
          obtain ⟨W11, hW11⟩ : ∃ W, W = World.alloc Wd (.cells #[.int .i64 0, .int .i64 0, .int .i64 0, .int .i64 0, .string ⟨#[]⟩] 25) := ⟨_, rfl⟩
          have hq11 : Hid (Qz W2 W11 (Wd).heap.size) := Lib.hid (by rw [hW11]; exact ⟨heap_new1 _ _ _ _ _ _, hbd.size⟩)
          have hb11 : Below W2.heap.size W2 W11 := by rw [hW11]; exact hbd.alloc hbd.size _
          rw [← hW11]
          obtain ⟨q, hq⟩ : ∃ q, q = (Wd).heap.size := ⟨_, rfl⟩
          rw [← hq] at hq11 ⊢
          clear hW11 hq
          refine hK.out _ _ ?Sn25 (fun hHeld => ?restn25)
          case Sn25 =>
            (try dsimp only)
            exact HKe.out _ hb11
          clear hK K
          (try simp only [Act.put, List.setIfInBounds_toArray, List.set_cons_zero, List.set_cons_succ])
          refine wpAnyH_ready (rs := [7]) (by kernel_rfl) (by simp) ?_
          refine AllReadyH.cons rfl (fun K hK => ?_) AllReadyH.nil
          go_simp
          go_at_call 41
          refine (numberIn_any _ (by assumption) _ (HT2.out.below hb11) (HE2.out.below hb11)).mono ?_
          rintro e w12 ⟨rfl, l12⟩
          have hb12 := below_callL hb11 l12
          have hq12 := Lib.hid (qz_call hq11.out l12)
          clear l12
          (try go_wp2_with fail)
          refine hK.out _ _ ?Sn26 (fun hHeld => ?restn26)
          case Sn26 =>
            (try dsimp only)
            exact HKe.out _ hb12
          clear hK K
          (try simp only [Act.put, List.setIfInBounds_toArray, List.set_cons_zero, List.set_cons_succ])
          refine wpAnyH_ready (rs := [9]) (by kernel_rfl) (by simp) ?_
          refine AllReadyH.cons rfl (fun K hK => ?_) AllReadyH.nil
          go_simp
          go_at_call 41
          refine (numberIn_any _ (by assumption) _ (HT2.out.below hb12) (HE2.out.below hb12)).mono ?_
          rintro e w13 ⟨rfl, l13⟩
          have hb13 := below_callL hb12 l13
          have hq13 := Lib.hid (qz_call hq12.out l13)
          clear l13
          (try go_wp2_with fail)
          refine hK.out _ _ ?Sn27 (fun hHeld => ?restn27)
          case Sn27 =>
            (try dsimp only)
            exact HKe.out _ hb13
          clear hK K
          (try simp only [Act.put, List.setIfInBounds_toArray, List.set_cons_zero, List.set_cons_succ])
          refine wpAnyH_ready (rs := [11]) (by kernel_rfl) (by simp) ?_
          refine AllReadyH.cons rfl (fun K hK => ?_) AllReadyH.nil
          go_simp
          go_at_call 41
          refine (numberIn_any _ (by assumption) _ (HT2.out.below hb13) (HE2.out.below hb13)).mono ?_
          rintro e w14 ⟨rfl, l14⟩
          have hb14 := below_callL hb13 l14
          have hq14 := Lib.hid (qz_call hq13.out l14)
          clear l14
          (try go_wp2_with fail)
          refine hK.out _ _ ?Sn28 (fun hHeld => ?restn28)
          case Sn28 =>
            (try dsimp only)
            exact HKe.out _ hb14
          clear hK K
          (try simp only [Act.put, List.setIfInBounds_toArray, List.set_cons_zero, List.set_cons_succ])
          refine wpAnyH_take (i := 12) (v := ?vn29) rfl (by kernel_rfl) (by kernel_rfl) (by kernel_rfl) (fun _ _ _ h => h) (Or.inl ⟨by rfl, ?hyn29⟩) hHeld ?restn29
          case hyn29 =>
            intro w' hSw
            (try dsimp only at hSw)
            go_simp
            (try with_reducible rfl)
          (try simp only [Act.put, List.setIfInBounds_toArray, List.set_cons_zero, List.set_cons_succ])
          obtain ⟨q0, q1, q2, q3, q4⟩ := hq14.out.1.cells
          have f0 := hq14.out.1.free 0
          have f1 := hq14.out.1.free 1
          have f2 := hq14.out.1.free 2
          have f3 := hq14.out.1.free 3
          have f4 := hq14.out.1.free 4
          refine wpAnyH_ready (rs := [14]) (by kernel_rfl) (by simp) ?_
          refine AllReadyH.cons rfl (fun K hK => ?_) AllReadyH.nil
          go_simp
          refine hK.out _ _ ?Sn30 (fun hHeld => ?restn30)
          case Sn30 =>
            (try dsimp only)
            exact HKe.out _ (below_store5 hb14 hq14.out)
          clear hK K
          (try simp only [Act.put, List.setIfInBounds_toArray, List.set_cons_zero, List.set_cons_succ])
          (try simp only [List.getElem_toArray, List.getElem_cons_succ, List.getElem_cons_zero, Act.put, List.setIfInBounds_toArray, List.set_cons_zero, List.set_cons_succ])
          refine wpAnyH_done (by kernel_rfl) ?_ _
          go_wp2_with fail
          go_meet
          case rel => exact ⟨q, rfl, hq14.out.2, Lib.hid hq14.out.1.store', Lib.hid (below_store5 hb14 hq14.out)⟩
      · go_simp
        obtain ⟨W10, hW10⟩ : ∃ W, W = World.alloc Wd (.cells #[.int .i64 0, .int .i64 0, .int .i64 0, .int .i64 0, .string ⟨#[]⟩] 25) := ⟨_, rfl⟩
        have hq10 : Hid (Qz W2 W10 (Wd).heap.size) := Lib.hid (by rw [hW10]; exact ⟨heap_new1 _ _ _ _ _ _, hbd.size⟩)
        have hb10 : Below W2.heap.size W2 W10 := by rw [hW10]; exact hbd.alloc hbd.size _
        rw [← hW10]
        obtain ⟨q, hq⟩ : ∃ q, q = (Wd).heap.size := ⟨_, rfl⟩
        rw [← hq] at hq10 ⊢
        clear hW10 hq
        refine hK.out _ _ ?Sn31 (fun hHeld => ?restn31)
        case Sn31 =>
          (try dsimp only)
          exact HKe.out _ hb10
        clear hK K
        (try simp only [Act.put, List.setIfInBounds_toArray, List.set_cons_zero, List.set_cons_succ])
        refine wpAnyH_ready (rs := [3]) (by kernel_rfl) (by simp) ?_
        refine AllReadyH.cons rfl (fun K hK => ?_) AllReadyH.nil
        go_simp
        go_at_call 40
        refine (kindOf_any _ _ (HK2.out.below hb10)).mono ?_
        rintro e _ ⟨rfl, rfl⟩
        (try go_wp2_with fail)
        refine hK.out _ _ ?Sn32 (fun hHeld => ?restn32)
        case Sn32 =>
          (try dsimp only)
          exact HKe.out _ hb10
        clear hK K
        (try simp only [Act.put, List.setIfInBounds_toArray, List.set_cons_zero, List.set_cons_succ])
        refine wpAnyH_ready (rs := [7]) (by kernel_rfl) (by simp) ?_
        refine AllReadyH.cons rfl (fun K hK => ?_) AllReadyH.nil
        go_simp
        go_at_call 41
        refine (numberIn_any _ (by assumption) _ (HT2.out.below hb10) (HE2.out.below hb10)).mono ?_
        rintro e w12 ⟨rfl, l12⟩
        have hb12 := below_callL hb10 l12
        have hq12 := Lib.hid (qz_call hq10.out l12)
        clear l12
        (try go_wp2_with fail)
        refine hK.out _ _ ?Sn33 (fun hHeld => ?restn33)
        case Sn33 =>
          (try dsimp only)
          exact HKe.out _ hb12
        clear hK K
        (try simp only [Act.put, List.setIfInBounds_toArray, List.set_cons_zero, List.set_cons_succ])
        refine wpAnyH_ready (rs := [9]) (by kernel_rfl) (by simp) ?_
        refine AllReadyH.cons rfl (fun K hK => ?_) AllReadyH.nil
        go_simp
        go_at_call 41
        refine (numberIn_any _ (by assumption) _ (HT2.out.below hb12) (HE2.out.below hb12)).mono ?_
        rintro e w13 ⟨rfl, l13⟩
        have hb13 := below_callL hb12 l13
        have hq13 := Lib.hid (qz_call hq12.out l13)
        clear l13
        (try go_wp2_with fail)
        refine hK.out _ _ ?Sn34 (fun hHeld => ?restn34)
        case Sn34 =>
          (try dsimp only)
          exact HKe.out _ hb13
        clear hK K
        (try simp only [Act.put, List.setIfInBounds_toArray, List.set_cons_zero, List.set_cons_succ])
        refine wpAnyH_ready (rs := [11]) (by kernel_rfl) (by simp) ?_
        refine AllReadyH.cons rfl (fun K hK => ?_) AllReadyH.nil
        go_simp
        go_at_call 41
        refine (numberIn_any _ (by assumption) _ (HT2.out.below hb13) (HE2.out.below hb13)).mono ?_
        rintro e w14 ⟨rfl, l14⟩
        have hb14 := below_callL hb13 l14
        have hq14 := Lib.hid (qz_call hq13.out l14)
        clear l14
        (try go_wp2_with fail)
        refine hK.out _ _ ?Sn35 (fun hHeld => ?restn35)
        case Sn35 =>
          (try dsimp only)
          exact HKe.out _ hb14
        clear hK K
        (try simp only [Act.put, List.setIfInBounds_toArray, List.set_cons_zero, List.set_cons_succ])
        refine wpAnyH_take (i := 12) (v := ?vn36) rfl (by kernel_rfl) (by kernel_rfl) (by kernel_rfl) (fun _ _ _ h => h) (Or.inl ⟨by rfl, ?hyn36⟩) hHeld ?restn36
        case hyn36 =>
          intro w' hSw
          (try dsimp only at hSw)
          go_simp
          (try with_reducible rfl)
        (try simp only [Act.put, List.setIfInBounds_toArray, List.set_cons_zero, List.set_cons_succ])
        obtain ⟨q0, q1, q2, q3, q4⟩ := hq14.out.1.cells
        have f0 := hq14.out.1.free 0
        have f1 := hq14.out.1.free 1
        have f2 := hq14.out.1.free 2
        have f3 := hq14.out.1.free 3
        have f4 := hq14.out.1.free 4
        refine wpAnyH_ready (rs := [14]) (by kernel_rfl) (by simp) ?_
        refine AllReadyH.cons rfl (fun K hK => ?_) AllReadyH.nil
        go_simp
        refine hK.out _ _ ?Sn37 (fun hHeld => ?restn37)
        case Sn37 =>
          (try dsimp only)
          exact HKe.out _ (below_store5 hb14 hq14.out)
        clear hK K
        (try simp only [Act.put, List.setIfInBounds_toArray, List.set_cons_zero, List.set_cons_succ])
        (try simp only [List.getElem_toArray, List.getElem_cons_succ, List.getElem_cons_zero, Act.put, List.setIfInBounds_toArray, List.set_cons_zero, List.set_cons_succ])
        refine wpAnyH_done (by kernel_rfl) ?_ _
        go_wp2_with fail
        go_meet
        case rel => exact ⟨q, rfl, hq14.out.2, Lib.hid hq14.out.1.store', Lib.hid (below_store5 hb14 hq14.out)⟩
    case rest => as_aux_lemma =>
      obtain ⟨q, rfl, hq, HPq, HBq⟩ := hcut
      have HBc := Lib.hid (HB2.out.trans (HBq.out.mono HB2.out.size))
      have HRc := Lib.hid (HR2.out.below HBq.out HR2.out.lt)
      have hqw : w.heap.size ≠ q := by have := HR2.out.lt; omega
      have hqw2 : q ≠ w.heap.size := by omega
      by_cases h5 : m = 5
      · have h5' : ((m : Int) == 5) = true := by rw [beq_iff_eq]; omega
        have i4 : (4 : Int) < (m : Int) := by omega
        have c4 := (HBq.out.cell (p := ⟨g, 4, none⟩) hg2).trans (HD2.out h5)
        have f4 := HPq.out.free 4
        have p4c := HPq.out.cells.2.2.2.2
        have HFd : Hid (fldsL s (kindW p0) (rdN p1) (rdN tr) (rdN le) p4) := Lib.hid (fun k' n' t' l' d' h => by
          obtain ⟨_, e0, e1, e2, e3, e4⟩ := HFl.out k' n' t' l' d' h
          rw [if_pos h5] at e4
          exact ⟨e0, e1, e2, e3, e4⟩)
        clear h5
        go_upto_region 8 with fail
        obtain ⟨a5, b5⟩ := Pb.set (i := 4) HPq.out (.string p4)
        obtain ⟨W5, hW5⟩ : ∃ W5, W5 = wc.setCell ⟨q, 4, none⟩ (.string p4) := ⟨_, rfl⟩
        rw [← hW5] at a5 b5 ⊢
        have HP5 : Hid (Pb W5 q (kindW p0) (rdN p1) (rdN tr) (rdN le) p4) := Lib.hid (by unfold Pb; rw [a5]; rfl)
        have HR5 := Lib.hid (HRc.out.grow2 b5 hqw)
        have HB5 := Lib.hid (HBc.out.grown b5 HBc.out.size (fun k hk => by have e : q = k := Option.some.inj hk; have := HB2.out.size; omega))
        clear hW5 a5 b5 c4 f4 p4c HPq HBq HRc HBc
        generalize kindW p0 = k at HP5 HFd
        generalize rdN p1 = n at HP5 HFd
        generalize rdN tr = t at HP5 HFd
        generalize rdN le = l at HP5 HFd
        obtain ⟨q0, q1, q2, q3, q4⟩ := HP5.out.cells
        obtain ⟨r0, r1, r2, r3, r4⟩ := HR5.out.cells
        have f0 := HR5.out.free 0
        have f1 := HR5.out.free 1
        have f2 := HR5.out.free 2
        have f3 := HR5.out.free 3
        have f4 := HR5.out.free 4
        go_wp2_with fail
        obtain ⟨hp1, hg1⟩ := HR5.out.store (k' := k) (n' := n) (t' := t) (l' := l) (d' := p4)
        refine bodyPost_ret (results_pkt1 rfl _ _ w.heap.size rfl hp1) rfl ⟨_, _, _, _, _, rfl, HZ4.out, HFd.out, ?_⟩
        exact HB5.out.grown hg1 HB5.out.size (fun k hk => by have e : w.heap.size = k := Option.some.inj hk; omega)
      · have h5' : ((m : Int) == 5) = false := by rw [beq_eq_false_iff_ne]; omega
        have HFd : Hid (fldsL s (kindW p0) (rdN p1) (rdN tr) (rdN le) ⟨#[]⟩) := Lib.hid (fun k' n' t' l' d' h => by
          obtain ⟨_, e0, e1, e2, e3, e4⟩ := HFl.out k' n' t' l' d' h
          rw [if_neg h5] at e4
          exact ⟨e0, e1, e2, e3, e4⟩)
        clear h5
        generalize kindW p0 = k at HPq HFd
        generalize rdN p1 = n at HPq HFd
        generalize rdN tr = t at HPq HFd
        generalize rdN le = l at HPq HFd
        obtain ⟨q0, q1, q2, q3, q4⟩ := HPq.out.cells
        obtain ⟨r0, r1, r2, r3, r4⟩ := HRc.out.cells
        have f0 := HRc.out.free 0
        have f1 := HRc.out.free 1
        have f2 := HRc.out.free 2
        have f3 := HRc.out.free 3
        have f4 := HRc.out.free 4
        go_wp2_with fail
        obtain ⟨hp1, hg1⟩ := HRc.out.store (k' := k) (n' := n) (t' := t) (l' := l) (d' := ⟨#[]⟩)
        refine bodyPost_ret (results_pkt1 rfl _ _ w.heap.size rfl hp1) rfl ⟨_, _, _, _, _, rfl, by decide, HFd.out, ?_⟩
        exact HBc.out.grown hg1 HBc.out.size (fun k hk => by have e : w.heap.size = k := Option.some.inj hk; omega)
  · have h4' : (m : Int) < 4 := by omega
    have HFd : Hid (fldsL s 0 0 0 0 ⟨#[]⟩) := Lib.hid (fun k' n' t' l' d' h => absurd (HF.out k' n' t' l' d' h).1 (by rw [← HMP.out]; exact h4))
    obtain ⟨r0, r1, r2, r3, r4⟩ := HR1.out.cells
    have f0 := HR1.out.free 0
    have f1 := HR1.out.free 1
    have f2 := HR1.out.free 2
    have f3 := HR1.out.free 3
    have f4 := HR1.out.free 4
    go_wp2_with fail
    obtain ⟨hp1, hg1⟩ := HR1.out.store (k' := 0) (n' := 0) (t' := 0) (l' := 0) (d' := ⟨#[]⟩)
    refine bodyPost_ret (results_pkt1 rfl _ _ w.heap.size rfl hp1) rfl ⟨_, _, _, _, _, rfl, by decide, HFd.out, ?_⟩
    exact HB1.out.grown hg1 HB1.out.size (fun k hk => by have e : w.heap.size = k := Option.some.inj hk; omega)
end Go.Proofs.YtncjplcefdeckaaGreatDoor
