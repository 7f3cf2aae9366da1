/-
  The program's queue behind a text that is sent: queueWith.
-/
import Derived.Test.YtbhhmaialilabaaRep
import Derived.Deep.CutBlock
namespace Go.Proofs.Ytbhhmaialilabaa
open Go.RowKit Go.Lib Go.Joins
set_option linter.unusedVariables false

/-- A slice as this program makes it: nil, or somewhere in a block. -/
def FitA (v : Value) (n : Nat) : Prop := (v = .slice none 0 0 ∧ n = 0) ∨ ∃ b off c, v = .slice (some ⟨b, off, none⟩) n c
theorem fitA_own {w : World} {B n : Nat} {e : TypeId} {v : Value} {xs : List Value} (h : w.ownsRow B e 1 v n xs) : FitA v n := by
  obtain ⟨hl, ⟨rfl, h0⟩ | ⟨g, c, cur, rfl, _⟩⟩ := h
  · exact .inl ⟨rfl, h0⟩
  · exact .inr ⟨_, _, _, rfl⟩
theorem FitA.fitS {v : Value} {n : Nat} (h : FitA v n) : FitS v n := by
  rcases h with h | ⟨b, off, c, h⟩
  · exact .inl h
  · exact .inr ⟨_, _, h⟩
/-- Where a text goes, and how often. -/
def plc (b : UInt8) (n : Nat) : Nat := if b = 115 then n - 1 else n
def tms (b : UInt8) (n : Nat) : Nat := if b = 108 then 0 else if b = 100 ∧ n + 1 < 8 then 2 else 1
theorem putQ_plc (b : UInt8) (q : List ByteArray) (s : ByteArray) : q.take (plc b q.length) ++ List.replicate (tms b q.length) s ++ q.drop (plc b q.length) = putQ b q s := by
  unfold plc tms putQ
  by_cases h1 : b = 108
  · subst h1
    rw [if_neg (by decide), if_pos rfl, if_pos rfl]
    simp
  · rw [if_neg h1, if_neg h1]
    by_cases h2 : b = 115
    · subst h2
      rw [if_pos rfl, if_neg (fun h => absurd h.1 (by decide))]
      by_cases h3 : 0 < q.length
      · rw [if_pos ⟨rfl, h3⟩, List.dropLast_eq_take]; rfl
      · have : q = [] := List.eq_nil_of_length_eq_zero (by omega)
        subst this
        rfl
    · rw [if_neg h2]
      rw [if_neg (show ¬ (b = 115 ∧ 0 < q.length) from fun h => h2 h.1)]
      by_cases h3 : b = 100 ∧ q.length + 1 < 8
      · rw [if_pos h3, if_pos h3]; simp
      · rw [if_neg h3, if_neg h3]; simp
theorem repeatS_any (c : Nat) (hc : c ≤ 2) (s : ByteArray) (g : Nat) (w : World) (hg : w.heap[g]? = some (.cells #[.string s] 9 (0, 0))) :
    Calls Try.prog 79 #[.slice (some ⟨g, 0, none⟩) 1 1, .int .i64 c] w fun e w' => ∃ v', e = .returned v' ∧ w'.ownsRow w.heap.size 9 1 v' c ((List.replicate c s).map Value.string) ∧ Below w.heap.size w w' := by
  match c, hc with
  | 0, _ => exact repeat0_any s g w hg
  | 1, _ => exact repeat1_any s g w hg
  | 2, _ => exact repeat2_any s g w hg
theorem row_slice {w : World} {ab ao n cap k : Nat} {q : List ByteArray} (h : Row w (.slice (some ⟨ab, ao, none⟩) n cap) n (q.map Value.string)) (hn : n = q.length) (hk : k ≤ n) :
    Row w (.slice (some ⟨ab, ao, none⟩) k cap) (q.take k).length ((q.take k).map Value.string) ∧
    ∃ o2, (if cap = k then (some ⟨ab, ao, none⟩ : Option Addr) else some ⟨ab, ao + k, none⟩) = some ⟨ab, o2, none⟩ ∧ Row w (.slice (some ⟨ab, o2, none⟩) (n - k) (cap - k)) (q.drop k).length ((q.drop k).map Value.string) := by
  subst hn
  constructor
  · have h2 := row_head' h hk
    rw [← List.map_take] at h2
    rw [List.length_take, Nat.min_eq_left hk]
    exact h2
  · have h2 := row_tail' h hk
    rw [← List.map_drop] at h2
    rw [List.length_drop]
    by_cases hcap : cap = k
    · refine ⟨ao, if_pos hcap, ?_⟩
      obtain ⟨a9, c9, e9, k1, k2, _⟩ := h2
      injection e9 with _ _ e9
      have hz : (q.drop k).map Value.string = [] := List.eq_nil_of_length_eq_zero (by rw [List.length_map, List.length_drop]; omega)
      rw [hz]
      exact ⟨_, _, rfl, by omega, by unfold maxLen; omega, fun hh => absurd rfl hh⟩
    · exact ⟨ao + k, if_neg hcap, h2⟩
theorem heap_new_drew (w : World) (o : Obj) : ((w.alloc o).drew).heap[w.heap.size]? = some o := heap_alloc_new w o
set_option maxRecDepth 100000 in
set_option maxHeartbeats 8000000 in
theorem queueWith_some (ab ao cap : Nat) (q : List ByteArray) (s : ByteArray) (b : UInt8) (w : World) (hrow : Row w (.slice (some ⟨ab, ao, none⟩) q.length cap) q.length (q.map Value.string)) (hl : q.length ≤ 8) (hroom : b = 108 ∨ q.length ≠ 8) (hb : b = 107 ∨ b = 108 ∨ b = 100 ∨ b = 115) :
    Calls Try.prog 60 #[.slice (some ⟨ab, ao, none⟩) q.length cap, .string s, .int .u8 (b.toNat : Int)] w fun e w' => ∃ v', e = .returned v' ∧ w'.ownsRow w.heap.size 9 1 v' (putQ b q s).length ((putQ b q s).map Value.string) ∧ Below w.heap.size w w' := by
  have HQ := Lib.hid (putQ_plc b q s)
  have HS := Lib.hid (fun (k : Nat) (hk : k ≤ q.length) => row_slice hrow rfl hk)
  have HRow := Lib.hid hrow
  obtain ⟨_, _, e9, hc1, hm1, _⟩ := row_open hrow
  injection e9 with e9a _ e9
  subst e9a
  subst e9
  unfold maxLen at hm1
  obtain ⟨n, hN⟩ : ∃ n, n = q.length := ⟨_, rfl⟩
  rw [← hN] at hc1 hl hroom HQ HS HRow ⊢
  have HN := Lib.hid hN
  clear hN hrow
  have hpl : plc b n ≤ n ∧ tms b n ≤ 2 := by
    unfold plc tms
    constructor
    · split <;> omega
    · split
      · omega
      · split <;> omega
  obtain ⟨hp1, hp2⟩ := hpl
  have HP1 := Lib.hid hp1
  have HP2 := Lib.hid hp2
  have HPl : Hid (plc b n = (if b = 115 then n - 1 else n)) := Lib.hid rfl
  have HTm : Hid (tms b n = (if b = 108 then 0 else if b = 100 ∧ n + 1 < 8 then 2 else 1)) := Lib.hid rfl
  clear hp1 hp2
  generalize plc b n = k at HP1 HPl HQ
  generalize tms b n = c at HP2 HTm HQ
  generalize putQ b q s = goal at HQ ⊢
  obtain ⟨x, hx⟩ : ∃ x : Int, x = (b.toNat : Int) := ⟨_, rfl⟩
  have HX := Lib.hid hx
  rw [← hx]
  clear hx
  go_enter Try.func60, Try.ntmps60
  go_upto_block 0 with fail
  go_cut [7, 8] from 12 to 25 (fun p t wx => p = .int .i64 (k : Int) ∧ t = .int .i64 (c : Int) ∧ wx = w)
  case first =>
    clear HQ HS HRow
    rcases hb with hb | hb | hb | hb
    · subst hb
      have d108 : (x == 108) = false := by rw [HX.out]; decide
      have d100 : (x == 100) = false := by rw [HX.out]; decide
      have d115 : (x == 115) = false := by rw [HX.out]; decide
      have e1 := HPl.out.symm
      have e2 := HTm.out.symm
      rw [if_neg (by decide)] at e1
      subst e1
      rw [if_neg (by decide), if_neg (fun h => absurd h.1 (by decide))] at e2
      subst e2
      clear hroom HPl HTm HX
      go_wp2_with fail
      go_meet
      case rel => exact ⟨rfl, rfl, rfl⟩
    · subst hb
      have d108 : (x == 108) = true := by rw [HX.out]; decide
      have e1 := HPl.out.symm
      have e2 := HTm.out.symm
      rw [if_neg (by decide)] at e1
      subst e1
      rw [if_pos rfl] at e2
      subst e2
      clear hroom HPl HTm HX
      go_wp2_with fail
      go_meet
      case rel => exact ⟨rfl, rfl, rfl⟩
    · subst hb
      have d108 : (x == 108) = false := by rw [HX.out]; decide
      have d100 : (x == 100) = true := by rw [HX.out]; decide
      have e1 := HPl.out.symm
      have e2 := HTm.out.symm
      rw [if_neg (by decide)] at e1
      subst e1
      rw [if_neg (by decide)] at e2
      have hn8 : n ≠ 8 := hroom.resolve_left (by decide)
      clear hroom HPl HTm HX
      by_cases h7 : n + 1 < 8
      · rw [if_pos ⟨rfl, h7⟩] at e2
        subst e2
        have hw : IntKind.i64.wrap (8 - (n : Int)) = 8 - (n : Int) := IntWalk.i64_in _ (by omega)
        go_wp2_with fail
        go_meet
        case rel => exact ⟨rfl, vint (by omega), rfl⟩
      · rw [if_neg (fun h => h7 h.2)] at e2
        subst e2
        have hn7 : n = 7 := by omega
        subst hn7
        go_wp2_with fail
        go_meet
        case rel => exact ⟨rfl, rfl, rfl⟩
    · subst hb
      have d108 : (x == 108) = false := by rw [HX.out]; decide
      have d100 : (x == 100) = false := by rw [HX.out]; decide
      have d115 : (x == 115) = true := by rw [HX.out]; decide
      have e1 := HPl.out.symm
      have e2 := HTm.out.symm
      rw [if_pos rfl] at e1
      rw [if_neg (by decide), if_neg (fun h => absurd h.1 (by decide))] at e2
      subst e2
      clear hroom HPl HTm HX
      have E1 := Lib.hid e1
      clear e1
      have hw : IntKind.i64.wrap ((n : Int) - 1) = (n : Int) - 1 := IntWalk.i64_in _ (by omega)
      go_wp2_with fail
      go_meet
      case rel => exact ⟨vint (by have := E1.out; omega), rfl, rfl⟩
  case rest =>
    obtain ⟨rfl, rfl, hw⟩ := hcut
    replace hw := hw.symm
    subst hw
    obtain ⟨h1, o2, ho2, h3⟩ := HS.out k HP1.out
    have HR1 := Lib.hid (fun (W : World) (hb : Below w.heap.size w W) => h1.below hb (Nat.le_refl _))
    have HR3 := Lib.hid (fun (W : World) (hb : Below w.heap.size w W) => h3.below hb (Nat.le_refl _))
    have HF1 : Hid (FitS (.slice (some ⟨ab, ao, none⟩) k cap) (q.take k).length) := Lib.hid (by
      rw [show (q.take k).length = k by rw [List.length_take, ← HN.out]; exact Nat.min_eq_left HP1.out]
      exact .inr ⟨_, _, rfl⟩)
    have HF3 : Hid (FitS (.slice (some ⟨ab, o2, none⟩) (n - k) (cap - k)) (q.drop k).length) := Lib.hid (by
      rw [show (q.drop k).length = n - k by rw [List.length_drop, ← HN.out]]
      exact .inr ⟨_, _, rfl⟩)
    have HL1 : Hid ((q.take k).length ≤ 100) := Lib.hid (by rw [List.length_take, ← HN.out]; omega)
    have HL2 : Hid ((List.replicate c s).length ≤ 100) := Lib.hid (by rw [List.length_replicate]; have := HP2.out; omega)
    have HL3 : Hid ((q.drop k).length ≤ 100) := Lib.hid (by rw [List.length_drop, ← HN.out]; omega)
    have HRl : Hid ((List.replicate c s).length = c) := Lib.hid List.length_replicate
    have hk := HP1.out
    have i1 : (k : Int) ≤ (n : Int) := by omega
    have i2 : (n : Int) ≤ (cap : Int) := by omega
    have i3 : (0 : Int) ≤ (k : Int) := by omega
    have i4 : (k : Int) ≤ (cap : Int) := by omega
    have i5 : k ≤ cap := by omega
    clear h1 h3 HS HRow hroom HPl HTm
    go_upto_region 9 with fail
    have tokA : True := trivial
    have tokB : True := trivial
    go_region_held3 (fun w' => Below w.heap.size w w')
      ((repeat (first | assumption | exact Below.refl _ _ | refine Below.drew ?_ | refine below_alloc' ?_)))
      (first
        | (have _t := tokA; go_at_call 79; refine (repeatS_any c HP2.out s _ _ (by first | exact heap_alloc_new _ _ | exact heap_new_drew _ _)).mono ?_; rintro e w5 ⟨v5, rfl, o5, l5⟩; have hf5 := fitS_own o5; obtain ⟨a5, c5, rfl, _, _⟩ := own_someS0 o5; have hb5 : Below w.heap.size w w5 := below_call7 (by repeat (first | assumption | exact Below.refl _ _ | refine Below.drew ?_ | refine below_alloc' ?_) : Below w.heap.size w _) l5; clear l5 tokA _t)
        | (have _t := tokB; go_at_call 68; refine (concatS3_any _ _ _ (q.take k) (List.replicate c s) (q.drop k) _ _ (HR1.out _ (by repeat (first | assumption | exact Below.refl _ _ | refine Below.drew ?_ | refine below_alloc' ?_))) HF1.out HL1.out (by rw [HRl.out]; exact (row_own o5).below (by repeat (first | exact Below.refl _ _ | refine Below.drew ?_ | refine below_alloc' ?_) : Below w5.heap.size w5 _) (Nat.le_refl _)) (by rw [HRl.out]; exact hf5) HL2.out (HR3.out _ (by repeat (first | assumption | exact Below.refl _ _ | refine Below.drew ?_ | refine below_alloc' ?_))) HF3.out HL3.out (by first | exact heap_alloc_new _ _ | exact heap_new_drew _ _)).mono ?_; rintro e w7 ⟨v7, rfl, o7, l7⟩; have hb7 : Below w.heap.size w w7 := below_call7 (by repeat (first | assumption | exact Below.refl _ _ | refine Below.drew ?_ | refine below_alloc' ?_) : Below w.heap.size w _) l7; clear tokB _t))
    all_goals go_wp2_with fail
    all_goals go_ret
    all_goals exact ⟨_, rfl, by rw [HQ.out] at o7; exact own_base o7 (by have := hb5.size; simp; omega), by first | exact hb7 | exact hb7.drew⟩
set_option maxRecDepth 100000 in
set_option maxHeartbeats 8000000 in
theorem queueWith_nil (s : ByteArray) (b : UInt8) (w : World) (hb : b = 107 ∨ b = 108 ∨ b = 100 ∨ b = 115) :
    Calls Try.prog 60 #[.slice none 0 0, .string s, .int .u8 (b.toNat : Int)] w fun e w' => ∃ v', e = .returned v' ∧ w'.ownsRow w.heap.size 9 1 v' (putQ b [] s).length ((putQ b [] s).map Value.string) ∧ Below w.heap.size w w' := by
  have HQ := Lib.hid (putQ_plc b [] s)
  have hp2 : tms b 0 ≤ 2 := by
    unfold tms
    split
    · omega
    · split <;> omega
  have HP2 := Lib.hid hp2
  have HTm : Hid (tms b 0 = (if b = 108 then 0 else if b = 100 ∧ 0 + 1 < 8 then 2 else 1)) := Lib.hid rfl
  have hpl : plc b 0 = 0 := by unfold plc; split <;> rfl
  rw [show ([] : List ByteArray).length = 0 from rfl, hpl, List.take_nil, List.drop_nil] at HQ
  clear hp2 hpl
  generalize tms b 0 = c at HP2 HTm HQ
  generalize putQ b [] s = goal at HQ ⊢
  obtain ⟨x, hx⟩ : ∃ x : Int, x = (b.toNat : Int) := ⟨_, rfl⟩
  have HX := Lib.hid hx
  rw [← hx]
  clear hx
  go_enter Try.func60, Try.ntmps60
  go_upto_block 0 with fail
  go_cut [7, 8] from 12 to 25 (fun p t wx => p = .int .i64 0 ∧ t = .int .i64 (c : Int) ∧ wx = w)
  case first =>
    clear HQ
    rcases hb with hb | hb | hb | hb
    · subst hb
      have d108 : (x == 108) = false := by rw [HX.out]; decide
      have d100 : (x == 100) = false := by rw [HX.out]; decide
      have d115 : (x == 115) = false := by rw [HX.out]; decide
      have e2 := HTm.out.symm
      rw [if_neg (by decide), if_neg (fun h => absurd h.1 (by decide))] at e2
      subst e2
      clear HTm HX
      go_wp2_with fail
      go_meet
      case rel => exact ⟨rfl, rfl, rfl⟩
    · subst hb
      have d108 : (x == 108) = true := by rw [HX.out]; decide
      have e2 := HTm.out.symm
      rw [if_pos rfl] at e2
      subst e2
      clear HTm HX
      go_wp2_with fail
      go_meet
      case rel => exact ⟨rfl, rfl, rfl⟩
    · subst hb
      have d108 : (x == 108) = false := by rw [HX.out]; decide
      have d100 : (x == 100) = true := by rw [HX.out]; decide
      have e2 := HTm.out.symm
      rw [if_neg (by decide), if_pos ⟨rfl, by omega⟩] at e2
      subst e2
      clear HTm HX
      go_wp2_with fail
      go_meet
      case rel => exact ⟨rfl, rfl, rfl⟩
    · subst hb
      have d108 : (x == 108) = false := by rw [HX.out]; decide
      have d100 : (x == 100) = false := by rw [HX.out]; decide
      have d115 : (x == 115) = true := by rw [HX.out]; decide
      have e2 := HTm.out.symm
      rw [if_neg (by decide), if_neg (fun h => absurd h.1 (by decide))] at e2
      subst e2
      clear HTm HX
      go_wp2_with fail
      go_meet
      case rel => exact ⟨rfl, rfl, rfl⟩
  case rest =>
    obtain ⟨rfl, rfl, hw⟩ := hcut
    replace hw := hw.symm
    subst hw
    have HRn := Lib.hid (fun (W : World) => (show Row W (.slice none 0 0) ([] : List ByteArray).length (([] : List ByteArray).map Value.string) from row_none W none 0 (Nat.zero_le _)))
    have HFn : Hid (FitS (.slice none 0 0) ([] : List ByteArray).length) := Lib.hid (.inl ⟨rfl, rfl⟩)
    have HLn : Hid (([] : List ByteArray).length ≤ 100) := Lib.hid (Nat.zero_le _)
    have HL2 : Hid ((List.replicate c s).length ≤ 100) := Lib.hid (by rw [List.length_replicate]; have := HP2.out; omega)
    have HRl : Hid ((List.replicate c s).length = c) := Lib.hid List.length_replicate
    clear HTm
    go_upto_region 9 with fail
    have tokA : True := trivial
    have tokB : True := trivial
    go_region_held3 (fun w' => Below w.heap.size w w')
      ((repeat (first | assumption | exact Below.refl _ _ | refine Below.drew ?_ | refine below_alloc' ?_)))
      (first
        | (have _t := tokA; go_at_call 79; refine (repeatS_any c HP2.out s _ _ (by first | exact heap_alloc_new _ _ | exact heap_new_drew _ _)).mono ?_; rintro e w5 ⟨v5, rfl, o5, l5⟩; have hf5 := fitS_own o5; obtain ⟨a5, c5, rfl, _, _⟩ := own_someS0 o5; have hb5 : Below w.heap.size w w5 := below_call7 (by repeat (first | assumption | exact Below.refl _ _ | refine Below.drew ?_ | refine below_alloc' ?_) : Below w.heap.size w _) l5; clear l5 tokA _t)
        | (have _t := tokB; go_at_call 68; refine (concatS3_any _ _ _ [] (List.replicate c s) [] _ _ (HRn.out _) HFn.out HLn.out (by rw [HRl.out]; exact (row_own o5).below (by repeat (first | exact Below.refl _ _ | refine Below.drew ?_ | refine below_alloc' ?_) : Below w5.heap.size w5 _) (Nat.le_refl _)) (by rw [HRl.out]; exact hf5) HL2.out (HRn.out _) HFn.out HLn.out (by first | exact heap_alloc_new _ _ | exact heap_new_drew _ _)).mono ?_; rintro e w7 ⟨v7, rfl, o7, l7⟩; have hb7 : Below w.heap.size w w7 := below_call7 (by repeat (first | assumption | exact Below.refl _ _ | refine Below.drew ?_ | refine below_alloc' ?_) : Below w.heap.size w _) l7; clear tokB _t))
    all_goals go_wp2_with fail
    all_goals go_ret
    all_goals exact ⟨_, rfl, by rw [HQ.out] at o7; exact own_base o7 (by have := hb5.size; simp; omega), by first | exact hb7 | exact hb7.drew⟩
theorem queueWith_any (v : Value) (q : List ByteArray) (s : ByteArray) (b : UInt8) (w : World) (hrow : Row w v q.length (q.map Value.string)) (hfit : FitA v q.length) (hl : q.length ≤ 8) (hroom : b = 108 ∨ q.length ≠ 8) (hb : b = 107 ∨ b = 108 ∨ b = 100 ∨ b = 115) :
    Calls Try.prog 60 #[v, .string s, .int .u8 (b.toNat : Int)] w fun e w' => ∃ v', e = .returned v' ∧ w'.ownsRow w.heap.size 9 1 v' (putQ b q s).length ((putQ b q s).map Value.string) ∧ Below w.heap.size w w' := by
  rcases hfit with ⟨rfl, h0⟩ | ⟨ab, ao, cap, rfl⟩
  · have : q = [] := List.eq_nil_of_length_eq_zero h0
    subst this
    exact queueWith_nil s b w hb
  · exact queueWith_some ab ao cap q s b w hrow hl hroom hb
end Go.Proofs.Ytbhhmaialilabaa
