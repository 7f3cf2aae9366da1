/-
  Packets: 'PacketLine' of both packages.
-/
import Derived.Test.YtncjplcefdeckaaGreatDoorPktI
import Derived.Test.YtncjplcefdeckaaGreatDoorPktLine
import Derived.Test.YtncjplcefdeckaaGreatDoorPkt5
import Derived.Test.YtncjplcefdeckaaGreatDoorTab
import Derived.Deep.RegionHeld3
namespace Go.Proofs.YtncjplcefdeckaaGreatDoor
open Go.RowKit Go.Lib Go.Joins
set_option linter.unusedVariables false

/-- The line of a packet, or the empty text. -/
def lineV (k n t l : Int) (d : ByteArray) : ByteArray := if pktOk k n t l d = true then lineB k n t l d else ⟨#[]⟩
theorem lineV_yes {k n t l : Int} {d : ByteArray} (h : pktOk k n t l d = true) : lineV k n t l d = lineB k n t l d := if_pos h
theorem lineV_no {k n t l : Int} {d : ByteArray} (h : pktOk k n t l d = false) : lineV k n t l d = ⟨#[]⟩ := by unfold lineV; rw [h]; rfl
set_option maxHeartbeats 1000000 in
theorem specLine_any (k n t l : Int) (d : ByteArray) (w : World) (hd : d.size ≤ maxLen) :
    Calls Tryz.prog 8 #[pv k n t l d] w fun e w' => e = .returned (.tuple #[.string (lineV k n t l d), .bool (pktOk k n t l d)]) ∧ Below w.heap.size w w' := by
  have HV := Lib.hid (fun w => l4Good_any k n t l d w hd)
  have HB0 := Lib.hid (((Below.refl w.heap.size w).alloc (Nat.le_refl _) (.cells #[.int .i64 k, .int .i64 n, .int .i64 t, .int .i64 l, .string d] 25)))
  have HP0 : Hid (Pb (w.alloc (.cells #[.int .i64 k, .int .i64 n, .int .i64 t, .int .i64 l, .string d] 25)) w.heap.size k n t l d) := Lib.hid (heap_alloc_new w _)
  cases hp : pktOk k n t l d with
  | false =>
    rw [hp] at HV
    rw [lineV_no hp]
    clear hp
    unfold pv at HV ⊢
    go_enter Tryz.func8, Tryz.ntmps8
    go_wp2_with fail
    refine (HV.out _).mono ?_
    rintro e W1 ⟨rfl, lW⟩
    have HB1 := Lib.hid (HB0.out.trans (lW.mono HB0.out.size))
    go_wp2_with fail
    go_ret2
    exact ⟨rfl, HB1.out⟩
  | true =>
    rw [hp] at HV
    rw [lineV_yes hp]
    have HC := Lib.hid (fun w => l4Line_any k n t l d w hp)
    generalize lineB k n t l d = es at HC
    clear hp
    unfold pv at HV HC ⊢
    go_enter Tryz.func8, Tryz.ntmps8
    go_wp2_with fail
    refine (HV.out _).mono ?_
    rintro e W1 ⟨rfl, lW⟩
    have HB1 := Lib.hid (HB0.out.trans (lW.mono HB0.out.size))
    have HP1 := Lib.hid (HP0.out.below lW HP0.out.lt)
    obtain ⟨c0, c1, c2, c3, c4⟩ := HP1.out.cells
    clear lW
    go_wp2_with fail
    refine (HC.out _).mono ?_
    rintro e W2 ⟨rfl, l2⟩
    have HB2 := Lib.hid (HB1.out.trans (l2.mono HB1.out.size))
    clear l2
    go_wp2_with fail
    go_ret2
    exact ⟨rfl, HB2.out⟩
theorem gKw : Tryz.prog.globalNamed "loop.example/g00840/impl.kindWords" = some 0 := by kernel_rfl
theorem gKwType : (Tryz.prog.globals[0]?).map (·.type) = some 41 := by kernel_rfl
/-- The program's table of words holds them. -/
def Kw (w : World) : Prop := w.var? Tryz.prog "loop.example/g00840/impl.kindWords" = some #[.string ⟨#[]⟩, .string ⟨#[100, 97, 116, 97]⟩, .string ⟨#[114, 101, 112, 97, 105, 114]⟩, .string ⟨#[114, 101, 113, 117, 101, 115, 116]⟩, .string ⟨#[99, 111, 110, 102, 105, 114, 109]⟩, .string ⟨#[115, 116, 97, 116, 117, 115]⟩]
theorem Kw.cell {w : World} (h : Kw w) {u : Nat} (h1 : 1 ≤ u) (h5 : u ≤ 5) : w.cell? ⟨0, u, none⟩ = some (.string (wordB (u : Int))) := by
  have := World.var?_cell gKw h u
  rcases (by omega : u = 1 ∨ u = 2 ∨ u = 3 ∨ u = 4 ∨ u = 5) with rfl | rfl | rfl | rfl | rfl <;> (rw [this]; rfl)
theorem Kw.lt {w : World} (h : Kw w) : 0 < w.heap.size := World.block_lt_of_cell? w _ (h.cell (u := 1) (by omega) (by omega))
theorem Kw.below {w w' : World} (h : Kw w) (hb : Below w.heap.size w w') : Kw w' := var?_below hb gKw h.lt h
theorem itoaN_any (n : Int) (h0 : 0 ≤ n) (h1 : n ≤ 65535) (w : World) (ht : Tab w) : Calls Tryz.prog 19 #[.int .i64 n] w fun e w' => e = .returned (.string (numS n)) ∧ Below w.heap.size w w' :=
  (Tryz.strconv_Itoa n (by omega) (by omega) w ht).mono fun e w' ⟨he, k, os, hw⟩ => ⟨he, by rw [hw]; exact below_grow k os⟩
theorem below_callL {W0 W w5 : World} (h : Below W0.heap.size W0 W) (l5 : Below W.heap.size W w5) : Below W0.heap.size W0 w5 := h.trans (l5.mono h.size)
set_option maxRecDepth 100000 in
set_option maxHeartbeats 2000000 in
theorem implLine_any (k n t l : Int) (d : ByteArray) (w : World) (hd : d.size ≤ maxLen) (ht : Tab w) (hw : Kw w) :
    Calls Tryz.prog 6 #[pv k n t l d] w fun e w' => e = .returned (.tuple #[.string (lineV k n t l d), .bool (pktOk k n t l d)]) ∧ Below w.heap.size w w' := by
  have HV := Lib.hid (fun w => implValid_any k n t l d w hd)
  have HB0 := Lib.hid (((Below.refl w.heap.size w).alloc (Nat.le_refl _) (.cells #[.int .i64 k, .int .i64 n, .int .i64 t, .int .i64 l, .string d] 25)))
  have HP0 : Hid (Pb (w.alloc (.cells #[.int .i64 k, .int .i64 n, .int .i64 t, .int .i64 l, .string d] 25)) w.heap.size k n t l d) := Lib.hid (heap_alloc_new w _)
  have HT := Lib.hid ht
  have HKw := Lib.hid hw
  clear ht hw
  cases hp : pktOk k n t l d with
  | false =>
    rw [hp] at HV
    rw [lineV_no hp]
    clear hp
    unfold pv at HV ⊢
    go_enter Tryz.func6, Tryz.ntmps6
    go_wp2_with fail
    refine (HV.out _).mono ?_
    rintro e W1 ⟨rfl, lW⟩
    have HB1 := Lib.hid (HB0.out.trans (lW.mono HB0.out.size))
    go_wp2_with fail
    go_ret2
    exact ⟨rfl, HB1.out⟩
  | true =>
    rw [hp] at HV
    rw [lineV_yes hp]
    obtain ⟨⟨k0, k1⟩, ⟨n0, n1⟩, ⟨t0, t1⟩, ⟨l0, l1⟩, _, _, hd8, _⟩ := pktOk_bd hp
    obtain ⟨u, rfl⟩ : ∃ u : Nat, k = (u : Int) := ⟨k.toNat, by omega⟩
    have u1 : 1 ≤ u := by omega
    have u5 : u ≤ 5 := by omega
    have zn := numS_size n0 (show n ≤ 999999 by omega)
    have zt := numS_size t0 (show t ≤ 999999 by omega)
    have zl := numS_size l0 (show l ≤ 999999 by omega)
    have zw := wordB_size (u : Int)
    obtain ⟨s1, hs1, ha1⟩ := add_two (numS t) ⟨#[45]⟩ 20 (by show _ + 1 ≤ _; omega)
    obtain ⟨s2, hs2, ha2⟩ := add_two s1 (numS l) 40 (by have := hs1.1; omega)
    obtain ⟨s3, hs3, ha3⟩ := add_two (wordB (u : Int)) ⟨#[32]⟩ 20 (by show _ + 1 ≤ _; omega)
    obtain ⟨s4, hs4, ha4⟩ := add_two s3 (numS n) 40 (by have := hs3.1; omega)
    obtain ⟨s5, hs5, ha5⟩ := add_two s4 ⟨#[32, 111, 102, 32]⟩ 60 (by have := hs4.1; show _ + 4 ≤ _; omega)
    obtain ⟨s6, hs6, ha6⟩ := add_two s5 s2 120 (by have := hs5.1; have := hs2.1; omega)
    have HD : Hid (s6.size ≤ 120 ∧ s6.data.toList = wordK (u : Int) ++ [32] ++ Lib.itoa n ++ [32, 111, 102, 32] ++ (Lib.itoa t ++ [45] ++ Lib.itoa l)) := Lib.hid ⟨hs6.1, by
      rw [hs6.2, hs5.2, hs4.2, hs3.2, hs2.2, hs1.2]; simp [wordB, numS]⟩
    clear hs1 hs2 hs3 hs4 hs5 hs6 hp zn zt zl zw
    unfold pv at HV ⊢
    go_enter Tryz.func6, Tryz.ntmps6
    go_wp2_with fail
    refine (HV.out _).mono ?_
    rintro e W1 ⟨rfl, lW⟩
    have HB1 := Lib.hid (HB0.out.trans (lW.mono HB0.out.size))
    have HP1 := Lib.hid (HP0.out.below lW HP0.out.lt)
    have HT1 := Lib.hid (HT.out.below HB1.out)
    have HK1 := Lib.hid (HKw.out.below HB1.out)
    have hlt := HP1.out.lt
    have HKe : Hid (∀ w' : World, Below W1.heap.size W1 w' → (w'.cell? ⟨w.heap.size, 2, none⟩ = some (.int .i64 t) ∧ w'.cell? ⟨w.heap.size, 3, none⟩ = some (.int .i64 l) ∧ Below W1.heap.size W1 w')) := Lib.hid (fun w' hb => by
      obtain ⟨_, _, c2, c3, _⟩ := (HP1.out.below hb hlt).cells
      exact ⟨c2, c3, hb⟩)
    have HKf : Hid (∀ w' : World, Below W1.heap.size W1 w' → (w'.cell? ⟨w.heap.size, 0, none⟩ = some (.int .i64 (u : Int)) ∧ w'.cell? ⟨w.heap.size, 1, none⟩ = some (.int .i64 n) ∧ w'.cell? ⟨0, u, none⟩ = some (.string (wordB (u : Int))) ∧ Below W1.heap.size W1 w')) := Lib.hid (fun w' hb => by
      obtain ⟨c0, c1, _, _, _⟩ := (HP1.out.below hb hlt).cells
      exact ⟨c0, c1, (HK1.out.below hb).cell u1 u5, hb⟩)
    clear lW HV HB0 HP0 HT HKw
    go_upto_region 3 with fail
    go_cut [4] from 9 to 17 (fun a wx => a = .string s2 ∧ Hid (Below W1.heap.size W1 wx))
    case first => as_aux_lemma =>
      go_region_held3 (fun w' => w'.cell? ⟨w.heap.size, 2, none⟩ = some (.int .i64 t) ∧ w'.cell? ⟨w.heap.size, 3, none⟩ = some (.int .i64 l) ∧ Below W1.heap.size W1 w')
        ((refine HKe.out _ ?_; repeat (first | assumption | exact Below.refl _ _ | refine Below.drew ?_)))
        (first | (go_at_call 19; refine (itoaN_any _ (by assumption) (by assumption) _ (HT1.out.below (by repeat (first | assumption | exact Below.refl _ _ | refine Below.drew ?_)))).mono ?_; rintro e w5 ⟨rfl, l5⟩; have hb5 := below_callL (W0 := W1) (by repeat (first | assumption | exact Below.refl _ _ | refine Below.drew ?_)) l5))
      all_goals go_wp2_with fail
      all_goals go_meet
      all_goals
        case rel => exact ⟨rfl, Lib.hid (by repeat (first | assumption | exact Below.refl _ _ | refine Below.drew ?_))⟩
    case rest => as_aux_lemma =>
      obtain ⟨rfl, HBc⟩ := hcut
      have hbc := HBc.out
      have v0 : (0 : Int) ≤ (u : Int) := by omega
      have v1 : (u : Int) < 6 := by omega
      clear HKe ha1 ha2
      go_upto_region 4 with fail
      go_cut [5] from 17 to 29 (fun a wx => a = .string s6 ∧ Hid (Below W1.heap.size W1 wx))
      case first => as_aux_lemma =>
        go_region_held3 (fun w' => w'.cell? ⟨w.heap.size, 0, none⟩ = some (.int .i64 (u : Int)) ∧ w'.cell? ⟨w.heap.size, 1, none⟩ = some (.int .i64 n) ∧ w'.cell? ⟨0, u, none⟩ = some (.string (wordB (u : Int))) ∧ Below W1.heap.size W1 w')
          ((refine HKf.out _ ?_; repeat (first | assumption | refine Below.drew ?_)))
          (first | (go_at_call 19; refine (itoaN_any _ (by assumption) (by assumption) _ (HT1.out.below (by repeat (first | assumption | refine Below.drew ?_)))).mono ?_; rintro e w5 ⟨rfl, l5⟩; have hb5 := below_callL (W0 := W1) (by repeat (first | assumption | refine Below.drew ?_)) l5))
        all_goals go_wp2_with fail
        all_goals go_meet
        all_goals
          case rel => exact ⟨rfl, Lib.hid (by repeat (first | assumption | refine Below.drew ?_))⟩
      case rest => as_aux_lemma =>
        obtain ⟨rfl, HBd⟩ := hcut
        have hPc := HP1.out.below HBd.out hlt
        have HBw := Lib.hid (HB1.out.trans (HBd.out.mono HB1.out.size))
        have p4 := hPc.cells.2.2.2.2
        have HL : Hid (lineL (u : Int) n t l d = s6.data.toList ++ tailD d) := Lib.hid (by rw [HD.out.2]; unfold lineL; simp)
        have hz := HD.out.1
        clear hbc hPc
        by_cases hd0 : d.size = 0
        · obtain rfl := str_empty_eq d hd0
          have HF : Hid (s6 = lineB (u : Int) n t l ⟨#[]⟩) := Lib.hid (by
            apply ByteArray.ext
            unfold lineB
            rw [HL.out, tailD_none (by rfl)]
            simp)
          clear hd0
          go_wp2_with fail
          go_ret2
          exact ⟨by rw [← HF.out]; rfl, HBw.out⟩
        · have hne : (d.toList == ([] : List UInt8)) = false := str_ne hd0
          obtain ⟨s7, hs7, ha7⟩ := add_two ⟨#[32]⟩ d 20 (by show 1 + _ ≤ _; omega)
          obtain ⟨s8, hs8, ha8⟩ := add_two s6 s7 200 (by have := hs7.1; omega)
          have HF : Hid (s8 = lineB (u : Int) n t l d) := Lib.hid (by
            apply ByteArray.ext
            apply Array.toList_inj.1
            rw [hs8.2, hs7.2]
            unfold lineB
            rw [HL.out, tailD_some hd0]
            simp)
          clear hd0 hs7 hs8
          go_wp2_with fail
          go_ret2
          exact ⟨by rw [← HF.out]; rfl, HBw.out⟩
end Go.Proofs.YtncjplcefdeckaaGreatDoor
