/-
  Packets: words and lines of the specification.
-/
import Derived.Test.YtncjplcefdeckaaGreatDoorPkt5
import Derived.Test.YtncjplcefdeckaaGreatDoorLineMath
import Derived.Test.YtncjplcefdeckaaGreatDoorNum
namespace Go.Proofs.YtncjplcefdeckaaGreatDoor
open Go.RowKit Go.Lib Go.Joins
set_option linter.unusedVariables false
set_option linter.unusedSimpArgs false

theorem l4Words_any (w : World) :
    Calls Tryz.prog 45 #[] w fun e w' => e = .returned (.slice (some ⟨w.heap.size, 0, none⟩) 6 6) ∧
      w' = w.alloc (.cells #[.string ⟨#[]⟩, .string ⟨#[100, 97, 116, 97]⟩, .string ⟨#[114, 101, 112, 97, 105, 114]⟩, .string ⟨#[114, 101, 113, 117, 101, 115, 116]⟩, .string ⟨#[99, 111, 110, 102, 105, 114, 109]⟩, .string ⟨#[115, 116, 97, 116, 117, 115]⟩] 9) := by
  go_enter Tryz.func45, Tryz.ntmps45
  go_wp2
  go_ret
  exact ⟨rfl, rfl⟩
theorem add_two (a b : ByteArray) (m : Nat) (h : a.size + b.size ≤ m) (hm : m ≤ 1000 := by omega) : ∃ c : ByteArray, (c.size ≤ m ∧ c.data.toList = a.data.toList ++ b.data.toList) ∧ ∀ W : World, (Op.stringOp .add a b).run Tryz.prog W = .ok (.string c) W :=
  ⟨a ++ b, ⟨by rw [ByteArray.size_append]; exact h, by simp⟩, fun W => run_string_add_sum W _ _ (by omega)⟩
theorem itoa_len {n : Int} (h0 : 0 ≤ n) (h1 : n ≤ 999999) : (Lib.itoa n).length ≤ 6 := by
  obtain ⟨u, rfl⟩ : ∃ u : Nat, n = u := ⟨n.toNat, by omega⟩
  rw [M.itoa_nat]
  exact (M.dec_len (by omega)).2
def numS (n : Int) : ByteArray := ⟨(Lib.itoa n).toArray⟩
theorem numS_size {n : Int} (h0 : 0 ≤ n) (h1 : n ≤ 999999) : (numS n).size ≤ 6 := by unfold numS; rw [size_list4]; exact itoa_len h0 h1
theorem numS_any (n : Int) (h0 : 0 ≤ n) (h1 : n ≤ 65535) (w : World) : Calls Tryz.prog 46 #[.int .i64 n] w fun e w' => e = .returned (.string (numS n)) ∧ ∃ k, w' = w.drewN k := l1Num_any n (by omega) (by omega) w
theorem wpAnyH_imp {P : Program} {md : Region.Mode} {ops : Array Oper} {Q : Exit → Act → World → Prop} {S S' : World → Prop} (h : ∀ w, S' w → S w) : ∀ (fuel : Nat) (listed : Array Bool) (a : Act) (w : World), wpAnyH P md ops Q S' fuel listed a w → wpAnyH P md ops Q S fuel listed a w
  | 0, _, _, _, H => H
  | fuel + 1, _, _, _, H => ⟨H.1, fun i hi => wpOp_mono (fun a' w' h' => ⟨h _ h'.1, wpAnyH_imp h fuel _ a' w' h'.2⟩) (H.2 i hi)⟩
theorem wpAnyH_strong {P : Program} {md : Region.Mode} {ops : Array Oper} {Q : Exit → Act → World → Prop} {S S' : World → Prop} {fuel : Nat} {listed : Array Bool} {a : Act} {w : World} (h : ∀ w, S' w → S w) (hs : S' w) (H : S' w → wpAnyH P md ops Q S' fuel listed a w) : wpAnyH P md ops Q S fuel listed a w :=
  wpAnyH_imp h _ _ _ _ (H hs)
def wordB (k : Int) : ByteArray := ⟨(wordK k).toArray⟩
theorem wordB_size (k : Int) : (wordB k).size ≤ 7 := by
  unfold wordB wordK
  split <;> (try split) <;> (try split) <;> (try split) <;> (try split) <;> decide
theorem words_at {u : Nat} (h0 : 1 ≤ u) (h1 : u ≤ 5) : (#[.string ⟨#[]⟩, .string ⟨#[100, 97, 116, 97]⟩, .string ⟨#[114, 101, 112, 97, 105, 114]⟩, .string ⟨#[114, 101, 113, 117, 101, 115, 116]⟩, .string ⟨#[99, 111, 110, 102, 105, 114, 109]⟩, .string ⟨#[115, 116, 97, 116, 117, 115]⟩] : Array Value)[u]? = some (.string (wordB (u : Int))) := by
  rcases (by omega : u = 1 ∨ u = 2 ∨ u = 3 ∨ u = 4 ∨ u = 5) with rfl | rfl | rfl | rfl | rfl <;> rfl
theorem below_drewN4 {W0 W : World} {q : Nat} (h : Below W0.heap.size W0 W) : Below W0.heap.size W0 (W.drewN q) := h.trans ((bdrew W q).mono h.size)
set_option maxRecDepth 100000 in
set_option maxHeartbeats 4000000 in
theorem l4Line_any (k n t l : Int) (d : ByteArray) (w : World) (hp : pktOk k n t l d = true) :
    Calls Tryz.prog 23 #[pv k n t l d] w fun e w' => e = .returned (.string (lineB k n t l d)) ∧ Below w.heap.size w w' := by
  obtain ⟨⟨k0, k1⟩, ⟨n0, n1⟩, ⟨t0, t1⟩, ⟨l0, l1⟩, _, _, hd, _⟩ := pktOk_bd hp
  have zn := numS_size n0 (by omega)
  have zt := numS_size t0 (by omega)
  have zl := numS_size l0 (by omega)
  obtain ⟨u, rfl⟩ : ∃ u : Nat, k = (u : Int) := ⟨k.toNat, by omega⟩
  have u1 : 1 ≤ u := by omega
  have u5 : u ≤ 5 := by omega
  have u6 : (u : Int) < 6 := by omega
  have zw := wordB_size (u : Int)
  obtain ⟨s1, hs1, ha1⟩ := add_two (wordB (u : Int)) ⟨#[32]⟩ 20 (by show _ + 1 ≤ _; omega)
  obtain ⟨s2, hs2, ha2⟩ := add_two s1 (numS n) 40 (by have := hs1.1; omega)
  obtain ⟨s3, hs3, ha3⟩ := add_two s2 ⟨#[32, 111, 102, 32]⟩ 60 (by have := hs2.1; show _ + 4 ≤ _; omega)
  obtain ⟨s4, hs4, ha4⟩ := add_two s3 (numS t) 80 (by have := hs3.1; omega)
  obtain ⟨s5, hs5, ha5⟩ := add_two s4 ⟨#[45]⟩ 100 (by have := hs4.1; show _ + 1 ≤ _; omega)
  obtain ⟨s6, hs6, ha6⟩ := add_two s5 (numS l) 120 (by have := hs5.1; omega)
  have HD : Hid (s6.size ≤ 120 ∧ s6.data.toList = wordK (u : Int) ++ [32] ++ Lib.itoa n ++ [32, 111, 102, 32] ++ Lib.itoa t ++ [45] ++ Lib.itoa l) := Lib.hid ⟨hs6.1, by
    rw [hs6.2, hs5.2, hs4.2, hs3.2, hs2.2, hs1.2]; simp [wordB, numS]⟩
  have HP := Lib.hid hp
  clear hs1 hs2 hs3 hs4 hs5 hs6 hp zn zt zl zw
  unfold pv
  go_enter Tryz.func23, Tryz.ntmps23
  go_upto_region 1 with fail
  obtain ⟨W1, hW1⟩ : ∃ W1, W1 = w.alloc (.cells #[.int .i64 (u : Int), .int .i64 n, .int .i64 t, .int .i64 l, .string d] 25) := ⟨_, rfl⟩
  have hP1 : Pb W1 w.heap.size (u : Int) n t l d := by rw [hW1]; exact heap_new1 w _ _ _ _ _
  have HB1 : Hid (Below w.heap.size w W1) := Lib.hid (by rw [hW1]; exact (Below.refl _ _).alloc (Nat.le_refl _) _)
  rw [← hW1]
  clear hW1
  have hlt := hP1.lt
  have HPk := Lib.hid hP1
  have HK : Hid (∀ w' : World, Below W1.heap.size W1 w' → (w'.cell? ⟨w.heap.size, 0, none⟩ = some (.int .i64 (u : Int)) ∧ w'.cell? ⟨w.heap.size, 1, none⟩ = some (.int .i64 n) ∧ w'.cell? ⟨w.heap.size, 2, none⟩ = some (.int .i64 t) ∧ w'.cell? ⟨w.heap.size, 3, none⟩ = some (.int .i64 l) ∧ Below W1.heap.size W1 w')) := Lib.hid (fun w' hb => by
    obtain ⟨c0, c1, c2, c3, _⟩ := (hP1.below hb hlt).cells
    exact ⟨c0, c1, c2, c3, hb⟩)
  have HWd := Lib.hid (words_at u1 u5)
  clear hP1
  go_cut [3] from 4 to 23 (fun r wx => r = .string s6 ∧ Hid (Below W1.heap.size W1 wx))
  case first => as_aux_lemma =>
    refine wp_region_held_drew (S := fun w' => w'.cell? ⟨w.heap.size, 0, none⟩ = some (.int .i64 (u : Int)) ∧ w'.cell? ⟨w.heap.size, 1, none⟩ = some (.int .i64 n) ∧ w'.cell? ⟨w.heap.size, 2, none⟩ = some (.int .i64 t) ∧ w'.cell? ⟨w.heap.size, 3, none⟩ = some (.int .i64 l) ∧ Below W1.heap.size W1 w') (by kernel_rfl) ?_ (fun hHeld => ?_)
    · exact HK.out _ (Below.drew (Below.refl _ _))
    refine wpAnyH_take (i := 1) (v := ?v1) rfl (by kernel_rfl) (by kernel_rfl) (by kernel_rfl) (fun _ _ _ h => h) (Or.inl ⟨by rfl, ?hy1⟩) (by assumption) ?rest1
    case hy1 =>
      intro w' hSw
      (try dsimp only at hSw)
      go_simp
      (try with_reducible rfl)
    (try simp only [Act.put, List.setIfInBounds_toArray, List.set_cons_zero, List.set_cons_succ])
    refine wpAnyH_take (i := 2) (v := ?v2) rfl (by kernel_rfl) (by kernel_rfl) (by kernel_rfl) (fun _ _ _ h => h) (Or.inl ⟨by rfl, ?hy2⟩) (by assumption) ?rest2
    case hy2 =>
      intro w' hSw
      (try dsimp only at hSw)
      go_simp
      (try with_reducible rfl)
    (try simp only [Act.put, List.setIfInBounds_toArray, List.set_cons_zero, List.set_cons_succ])
    refine wpAnyH_take (i := 6) (v := ?v6) rfl (by kernel_rfl) (by kernel_rfl) (by kernel_rfl) (fun _ _ _ h => h) (Or.inl ⟨by rfl, ?hy6⟩) (by assumption) ?rest6
    case hy6 =>
      intro w' hSw
      (try dsimp only at hSw)
      go_simp
      (try with_reducible rfl)
    (try simp only [Act.put, List.setIfInBounds_toArray, List.set_cons_zero, List.set_cons_succ])
    refine wpAnyH_take (i := 7) (v := ?v7) rfl (by kernel_rfl) (by kernel_rfl) (by kernel_rfl) (fun _ _ _ h => h) (Or.inl ⟨by rfl, ?hy7⟩) (by assumption) ?rest7
    case hy7 =>
      intro w' hSw
      (try dsimp only at hSw)
      go_simp
      (try with_reducible rfl)
    (try simp only [Act.put, List.setIfInBounds_toArray, List.set_cons_zero, List.set_cons_succ])
    refine wpAnyH_take (i := 11) (v := ?v11) rfl (by kernel_rfl) (by kernel_rfl) (by kernel_rfl) (fun _ _ _ h => h) (Or.inl ⟨by rfl, ?hy11⟩) (by assumption) ?rest11
    case hy11 =>
      intro w' hSw
      (try dsimp only at hSw)
      go_simp
      (try with_reducible rfl)
    (try simp only [Act.put, List.setIfInBounds_toArray, List.set_cons_zero, List.set_cons_succ])
    refine wpAnyH_take (i := 12) (v := ?v12) rfl (by kernel_rfl) (by kernel_rfl) (by kernel_rfl) (fun _ _ _ h => h) (Or.inl ⟨by rfl, ?hy12⟩) (by assumption) ?rest12
    case hy12 =>
      intro w' hSw
      (try dsimp only at hSw)
      go_simp
      (try with_reducible rfl)
    (try simp only [Act.put, List.setIfInBounds_toArray, List.set_cons_zero, List.set_cons_succ])
    refine wpAnyH_take (i := 16) (v := ?v16) rfl (by kernel_rfl) (by kernel_rfl) (by kernel_rfl) (fun _ _ _ h => h) (Or.inl ⟨by rfl, ?hy16⟩) (by assumption) ?rest16
    case hy16 =>
      intro w' hSw
      (try dsimp only at hSw)
      go_simp
      (try with_reducible rfl)
    (try simp only [Act.put, List.setIfInBounds_toArray, List.set_cons_zero, List.set_cons_succ])
    refine wpAnyH_take (i := 17) (v := ?v17) rfl (by kernel_rfl) (by kernel_rfl) (by kernel_rfl) (fun _ _ _ h => h) (Or.inl ⟨by rfl, ?hy17⟩) (by assumption) ?rest17
    case hy17 =>
      intro w' hSw
      (try dsimp only at hSw)
      go_simp
      (try with_reducible rfl)
    (try simp only [Act.put, List.setIfInBounds_toArray, List.set_cons_zero, List.set_cons_succ])
    refine wpAnyH_ready (rs := [0]) (by kernel_rfl) (by simp) ?_
    refine AllReadyH.cons rfl (fun K hK => ?_) AllReadyH.nil
    go_simp
    (go_at_call 45; refine (l4Words_any _).mono ?_; rintro e w5 ⟨rfl, rfl⟩)
    (try go_wp2_with fail)
    refine hK.out _ _ ?S0 (fun hHeld => ?rest0)
    case S0 =>
      (try dsimp only)
      exact HK.out _ (by repeat (first | assumption | exact Below.refl _ _ | refine Below.drew ?_ | refine below_drewN4 ?_ | refine below_alloc' ?_))
    clear hK K
    (try simp only [Act.put, List.setIfInBounds_toArray, List.set_cons_zero, List.set_cons_succ])
    refine wpAnyH_strong (S' := fun w' => (w'.cell? ⟨w.heap.size, 0, none⟩ = some (.int .i64 (u : Int)) ∧ w'.cell? ⟨w.heap.size, 1, none⟩ = some (.int .i64 n) ∧ w'.cell? ⟨w.heap.size, 2, none⟩ = some (.int .i64 t) ∧ w'.cell? ⟨w.heap.size, 3, none⟩ = some (.int .i64 l) ∧ Below W1.heap.size W1 w') ∧ w'.cell? ⟨W1.heap.size, u, none⟩ = some (.string (wordB (u : Int)))) (fun _ h => h.1) ⟨hHeld, ?cell⟩ (fun hHeld2 => ?_)
    case cell => exact (World.cell?_alloc_new W1.drew _ _ _).trans HWd.out
    clear hHeld
    refine wpAnyH_take (i := 3) (v := ?v3) rfl (by kernel_rfl) (by kernel_rfl) (by kernel_rfl) (fun _ _ _ h => h) (Or.inl ⟨by rfl, ?hy3⟩) (by assumption) ?rest3
    case hy3 =>
      intro w' hSw
      (try dsimp only at hSw)
      go_simp
      (try with_reducible rfl)
    (try simp only [Act.put, List.setIfInBounds_toArray, List.set_cons_zero, List.set_cons_succ])
    refine wpAnyH_take (i := 4) (v := ?v4) rfl (by kernel_rfl) (by kernel_rfl) (by kernel_rfl) (fun _ _ _ h => h) (Or.inl ⟨by rfl, ?hy4⟩) (by assumption) ?rest4
    case hy4 =>
      intro w' hSw
      (try dsimp only at hSw)
      go_simp
      (try with_reducible rfl)
    (try simp only [Act.put, List.setIfInBounds_toArray, List.set_cons_zero, List.set_cons_succ])
    refine wpAnyH_take (i := 5) (v := ?v5) rfl (by kernel_rfl) (by kernel_rfl) (by kernel_rfl) (fun _ _ _ h => h) (Or.inl ⟨by rfl, ?hy5⟩) (by assumption) ?rest5
    case hy5 =>
      intro w' hSw
      (try dsimp only at hSw)
      go_simp
      (try with_reducible rfl)
    (try simp only [Act.put, List.setIfInBounds_toArray, List.set_cons_zero, List.set_cons_succ])
    refine wpAnyH_ready (rs := [8]) (by kernel_rfl) (by simp) ?_
    refine AllReadyH.cons rfl (fun K hK => ?_) AllReadyH.nil
    go_simp
    (go_at_call 46; refine (numS_any _ (by assumption) (by assumption) _).mono ?_; rintro e w5 ⟨rfl, q5, rfl⟩)
    (try go_wp2_with fail)
    refine hK.out _ _ ?S8 (fun hHeld => ?rest8)
    case S8 =>
      (try dsimp only)
      (refine ⟨HK.out _ (by repeat (first | assumption | exact Below.refl _ _ | refine Below.drew ?_ | refine below_drewN4 ?_ | refine below_alloc' ?_)), ?_⟩; first | exact hHeld2.2 | exact hHeld.2 | assumption)
    clear hK K
    (try simp only [Act.put, List.setIfInBounds_toArray, List.set_cons_zero, List.set_cons_succ])
    refine wpAnyH_take (i := 9) (v := ?v9) rfl (by kernel_rfl) (by kernel_rfl) (by kernel_rfl) (fun _ _ _ h => h) (Or.inl ⟨by rfl, ?hy9⟩) (by assumption) ?rest9
    case hy9 =>
      intro w' hSw
      (try dsimp only at hSw)
      go_simp
      (try with_reducible rfl)
    (try simp only [Act.put, List.setIfInBounds_toArray, List.set_cons_zero, List.set_cons_succ])
    refine wpAnyH_take (i := 10) (v := ?v10) rfl (by kernel_rfl) (by kernel_rfl) (by kernel_rfl) (fun _ _ _ h => h) (Or.inl ⟨by rfl, ?hy10⟩) (by assumption) ?rest10
    case hy10 =>
      intro w' hSw
      (try dsimp only at hSw)
      go_simp
      (try with_reducible rfl)
    (try simp only [Act.put, List.setIfInBounds_toArray, List.set_cons_zero, List.set_cons_succ])
    refine wpAnyH_ready (rs := [13]) (by kernel_rfl) (by simp) ?_
    refine AllReadyH.cons rfl (fun K hK => ?_) AllReadyH.nil
    go_simp
    (go_at_call 46; refine (numS_any _ (by assumption) (by assumption) _).mono ?_; rintro e w5 ⟨rfl, q5, rfl⟩)
    (try go_wp2_with fail)
    refine hK.out _ _ ?S13 (fun hHeld => ?rest13)
    case S13 =>
      (try dsimp only)
      (refine ⟨HK.out _ (by repeat (first | assumption | exact Below.refl _ _ | refine Below.drew ?_ | refine below_drewN4 ?_ | refine below_alloc' ?_)), ?_⟩; first | exact hHeld2.2 | exact hHeld.2 | assumption)
    clear hK K
    (try simp only [Act.put, List.setIfInBounds_toArray, List.set_cons_zero, List.set_cons_succ])
    refine wpAnyH_take (i := 14) (v := ?v14) rfl (by kernel_rfl) (by kernel_rfl) (by kernel_rfl) (fun _ _ _ h => h) (Or.inl ⟨by rfl, ?hy14⟩) (by assumption) ?rest14
    case hy14 =>
      intro w' hSw
      (try dsimp only at hSw)
      go_simp
      (try with_reducible rfl)
    (try simp only [Act.put, List.setIfInBounds_toArray, List.set_cons_zero, List.set_cons_succ])
    refine wpAnyH_take (i := 15) (v := ?v15) rfl (by kernel_rfl) (by kernel_rfl) (by kernel_rfl) (fun _ _ _ h => h) (Or.inl ⟨by rfl, ?hy15⟩) (by assumption) ?rest15
    case hy15 =>
      intro w' hSw
      (try dsimp only at hSw)
      go_simp
      (try with_reducible rfl)
    (try simp only [Act.put, List.setIfInBounds_toArray, List.set_cons_zero, List.set_cons_succ])
    refine wpAnyH_ready (rs := [18]) (by kernel_rfl) (by simp) ?_
    refine AllReadyH.cons rfl (fun K hK => ?_) AllReadyH.nil
    go_simp
    (go_at_call 46; refine (numS_any _ (by assumption) (by assumption) _).mono ?_; rintro e w5 ⟨rfl, q5, rfl⟩)
    (try go_wp2_with fail)
    refine hK.out _ _ ?S18 (fun hHeld => ?rest18)
    case S18 =>
      (try dsimp only)
      (refine ⟨HK.out _ (by repeat (first | assumption | exact Below.refl _ _ | refine Below.drew ?_ | refine below_drewN4 ?_ | refine below_alloc' ?_)), ?_⟩; first | exact hHeld2.2 | exact hHeld.2 | assumption)
    clear hK K
    (try simp only [Act.put, List.setIfInBounds_toArray, List.set_cons_zero, List.set_cons_succ])
    refine wpAnyH_take (i := 19) (v := ?v19) rfl (by kernel_rfl) (by kernel_rfl) (by kernel_rfl) (fun _ _ _ h => h) (Or.inl ⟨by rfl, ?hy19⟩) (by assumption) ?rest19
    case hy19 =>
      intro w' hSw
      (try dsimp only at hSw)
      go_simp
      (try with_reducible rfl)
    (try simp only [Act.put, List.setIfInBounds_toArray, List.set_cons_zero, List.set_cons_succ])
    refine wpAnyH_take (i := 20) (v := ?v20) rfl (by kernel_rfl) (by kernel_rfl) (by kernel_rfl) (fun _ _ _ h => h) (Or.inl ⟨by rfl, ?hy20⟩) (by assumption) ?rest20
    case hy20 =>
      intro w' hSw
      (try dsimp only at hSw)
      go_simp
      (try with_reducible rfl)
    (try simp only [Act.put, List.setIfInBounds_toArray, List.set_cons_zero, List.set_cons_succ])
    (try simp only [List.getElem_toArray, List.getElem_cons_succ, List.getElem_cons_zero, Act.put, List.setIfInBounds_toArray, List.set_cons_zero, List.set_cons_succ])
    refine wpAnyH_done (by kernel_rfl) ?_ _
    go_wp2_with fail
    go_meet
    case rel => exact ⟨rfl, Lib.hid (by repeat (first | assumption | exact Below.refl _ _ | refine Below.drew ?_ | refine below_drewN4 ?_ | refine below_alloc' ?_))⟩
  case rest =>
    obtain ⟨rfl, HBc⟩ := hcut
    have hPc := HPk.out.below HBc.out hlt
    have HBw := Lib.hid (HB1.out.trans (HBc.out.mono HB1.out.size))
    have p4 := hPc.cells.2.2.2.2
    have HL : Hid (lineL (u : Int) n t l d = s6.data.toList ++ tailD d) := Lib.hid (by rw [HD.out.2]; unfold lineL; simp)
    have hz := HD.out.1
    by_cases hd0 : d.size = 0
    · obtain rfl := str_empty_eq d hd0
      have HF : Hid (s6 = lineB (u : Int) n t l ⟨#[]⟩) := Lib.hid (by
        apply ByteArray.ext
        unfold lineB
        rw [HL.out, tailD_none (by rfl)]
        simp)
      clear hd0
      go_wp2_with fail
      go_ret
      exact ⟨ret_str HF.out, HBw.out⟩
    · have hne : (d.toList == ([] : List UInt8)) = false := str_ne hd0
      have z1 : (s6 ++ ⟨#[32]⟩).size ≤ 121 := by rw [ByteArray.size_append]; show _ + 1 ≤ _; omega
      have z2 : s6.size + (⟨#[32]⟩ : ByteArray).size ≤ 9223372036854775807 := by show _ + 1 ≤ _; omega
      have z3 : (s6 ++ ⟨#[32]⟩).size + d.size ≤ 9223372036854775807 := by omega
      have HF : Hid (s6 ++ ⟨#[32]⟩ ++ d = lineB (u : Int) n t l d) := Lib.hid (by
        apply ByteArray.ext
        unfold lineB
        rw [HL.out, tailD_some hd0]
        simp)
      clear hd0
      go_wp2_with fail
      go_ret
      exact ⟨ret_str HF.out, HBw.out⟩
end Go.Proofs.YtncjplcefdeckaaGreatDoor
