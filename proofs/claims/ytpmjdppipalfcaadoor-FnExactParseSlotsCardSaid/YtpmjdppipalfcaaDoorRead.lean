/-
  ParseInt of the specification ('l1Read').
-/
import Derived.Test.YtpmjdppipalfcaaDoorNum
import Derived.Test.YtpmjdppipalfcaaDoorMath1
import Derived.Test.YtpmjdppipalfcaaDoorMath2
import Derived.Lib.IndexBytes
namespace Go.Proofs.YtpmjdppipalfcaaDoor
open Go.RowKit

/-- What ParseInt may return for s: its number, or nothing. -/
def PR (s : ByteArray) (e : Ending) : Prop :=
  (∃ n : Int, M.inR n ∧ Lib.itoa n = s.data.toList ∧ e = .returned (.tuple #[.int .i64 n, .bool true])) ∨
  ((∀ m : Int, M.inR m → Lib.itoa m ≠ s.data.toList) ∧ e = .returned (.tuple #[.int .i64 0, .bool false]))

theorem PR.no {s : ByteArray} (h : ∀ m : Int, M.inR m → Lib.itoa m ≠ s.data.toList) : PR s (.returned (.tuple #[.int .i64 0, .bool false])) := .inr ⟨h, rfl⟩
theorem PR.yes {s : ByteArray} {n : Int} (h : M.inR n) (he : Lib.itoa n = s.data.toList) : PR s (.returned (.tuple #[.int .i64 n, .bool true])) := .inl ⟨n, h, he, rfl⟩

/-- How the sign is told: t is what stands behind it, g what its value is taken times. -/
def Signed (s t : ByteArray) (g : Int) : Prop :=
  ∀ m : Int, M.inR m → Lib.itoa m = s.data.toList → 1 ≤ t.size ∧ t.size ≤ 6 ∧ M.allDig t.data.toList ∧ m = g * M.dv 0 t.data.toList

theorem read_digit {t : ByteArray} (h : M.allDig t.data.toList) (k : Nat) (hk : k < t.size) : 48 ≤ t[k].toNat ∧ t[k].toNat ≤ 57 :=
  h _ (by
    have : t[k] ∈ t.data.toList := by
      rw [List.mem_iff_getElem]
      exact ⟨k, by simpa using hk, by rfl⟩
    exact this)

theorem signed_plain (s : ByteArray) (h : s.size ≤ 1 ∨ s.data.toList.head? ≠ some 45) : Signed s s 1 := fun m hm he => by
  obtain ⟨h1, h2, h3, h4⟩ := M.plain_of_itoa hm he (by
    rcases h with h | h
    · right; simpa using h
    · left; exact h)
  exact ⟨by simpa using h1, by simpa using h2, h3, by rw [Int.one_mul]; exact h4⟩

theorem tail_extract (s t : ByteArray) (h0 : 0 < s.size) (h : s.extract 1 s.size = t) : s.data.toList = s[0] :: t.data.toList ∧ t.size = s.size - 1 := by
  subst h
  refine ⟨?_, by simp⟩
  rw [Lib.extract_to_end]
  have hl : 0 < s.data.toList.length := by simpa using h0
  have e : s[0] = s.data.toList[0] := rfl
  rw [e]
  exact (List.getElem_cons_drop (h := hl)).symm

theorem signed_minus (s t : ByteArray) (h0 : 0 < s.size) (h45 : s[0] = 45) (h : s.extract 1 s.size = t) : Signed s t (-1) := fun m hm he => by
  obtain ⟨e1, e2⟩ := tail_extract s t h0 h
  rw [e1, h45] at he
  obtain ⟨h1, h2, h3, h4⟩ := M.minus_of_itoa hm he
  exact ⟨by simpa using h1, by simpa using h2, h3, by rw [h4]; omega⟩


theorem dv_take (t : ByteArray) (k : Nat) (h : k < t.size) :
    M.dv 0 (t.data.toList.take (k + 1)) = 10 * M.dv 0 (t.data.toList.take k) + ((t[k].toNat : Int) - 48) := by
  rw [M.take_snoc t k h, M.dv_snoc]
theorem dig_take (t : ByteArray) (k : Nat) (h : k < t.size) (hd : M.allDig (t.data.toList.take k)) (h1 : (48 : Int) ≤ t[k].toNat) (h2 : (t[k].toNat : Int) ≤ 57) : M.allDig (t.data.toList.take (k + 1)) := by
  rw [M.take_snoc t k h]
  exact M.allDig_snoc hd (by omega)

theorem no_len {s t : ByteArray} {g : Int} (hg : Signed s t g) (h : ¬ (1 ≤ t.size ∧ t.size ≤ 6)) : ∀ m : Int, M.inR m → Lib.itoa m ≠ s.data.toList :=
  fun m hm he => by obtain ⟨h1, h2, _⟩ := hg m hm he; exact h ⟨h1, h2⟩
theorem no_dig {s t : ByteArray} {g : Int} (hg : Signed s t g) (k : Nat) (hk : k < t.size) (h : ¬ (48 ≤ t[k].toNat ∧ t[k].toNat ≤ 57)) : ∀ m : Int, M.inR m → Lib.itoa m ≠ s.data.toList :=
  fun m hm he => by obtain ⟨_, _, h3, _⟩ := hg m hm he; exact h (read_digit h3 k hk)
theorem no_val {s t : ByteArray} {g : Int} (hg : Signed s t g) (h : (⟨(Lib.itoa (g * M.dv 0 t.data.toList)).toArray⟩ : ByteArray) ≠ s) : ∀ m : Int, M.inR m → Lib.itoa m ≠ s.data.toList :=
  fun m hm he => by
    obtain ⟨_, _, _, h4⟩ := hg m hm he
    refine h ?_
    rw [← h4, he]

theorem of_eq {l : List UInt8} {s : ByteArray} (h : (!l == s.toList) = false) : l = s.data.toList := by
  have h1 : (l == s.toList) = true := by simpa using h
  have h2 : l = s.toList := by simpa using h1
  rw [h2, ByteArray.toList_eq]
theorem of_ne {l : List UInt8} {s : ByteArray} (h : (!l == s.toList) = true) : (⟨l.toArray⟩ : ByteArray) ≠ s := fun e => by
  subst e
  simp [ByteArray.toList_eq] at h
theorem end_no {s t : ByteArray} {g d x : Int} (hg : Signed s t g) (hd : M.dv 0 (t.data.toList.take t.size) = d) (hx : g * d = x) (h : (!Lib.itoa x == s.toList) = true) :
    PR s (.returned (.tuple #[.int .i64 0, .bool false])) := by
  rw [M.take_all] at hd
  refine PR.no (no_val hg ?_)
  rw [hd, hx]
  exact of_ne h
theorem end_yes {s : ByteArray} {x : Int} (hx : M.inR x) (h : (!Lib.itoa x == s.toList) = false) : PR s (.returned (.tuple #[.int .i64 x, .bool true])) :=
  PR.yes hx (of_eq h)

set_option maxRecDepth 100000 in
set_option maxHeartbeats 1000000 in
theorem l1Read_minus (s : ByteArray) (hs : s.size ≤ maxLen) (w : World) (h1 : 1 < s.size) (h45 : ((s[0].toNat : Int) == 45) = true) :
    Calls Tryd.prog 61 #[.string s] w fun e w' => PR s e ∧ ∃ k, w' = w.drewN k := by
  unfold maxLen at hs
  obtain ⟨t, hext⟩ : ∃ t, s.extract 1 s.size = t := ⟨_, rfl⟩
  have hg := signed_minus s t (by omega) (by have : s[0].toNat = 45 := by
                                               have h' : (s[0].toNat : Int) = 45 := by simpa using h45
                                               omega
                                             exact UInt8.toNat_inj.1 this) hext
  have hts := (tail_extract s t (by omega) hext).2
  have hlt : t.size < s.size := by omega
  have hts' : t.size ≤ 9223372036854775806 := by omega
  clear hts
  have HG := Lib.hid hg
  clear hg
  by_cases hl : 1 ≤ t.size ∧ t.size ≤ 6
  · have hl1 : decide ((1 : Int) ≤ (t.size : Int) ∧ (t.size : Int) ≤ 6) = true := by rw [decide_eq_true_iff]; omega
    obtain ⟨hla, hlb⟩ := hl
    go_enter Tryd.func61, Tryd.ntmps61
    go_wp2_with (go_at_call 69; refine (l1In_num _ _ _ _).mono ?_; rintro e w' ⟨rfl, rfl⟩)
    go_loop [5, 6] (fun n i => ∃ k : Nat, k ≤ t.size ∧ i = .int .i64 k ∧ n = .int .i64 (M.dv 0 (t.data.toList.take k)) ∧ M.allDig (t.data.toList.take k)) (fun _ i => t.size - (intOf i).toNat)
    case atStart => exact ⟨0, Nat.zero_le _, rfl, rfl, fun c hc => by simp at hc⟩
    case round =>
      obtain ⟨k, hk, rfl, rfl, hd⟩ := hrel
      obtain ⟨hb0, hb1⟩ := M.dv6 _ hd (by rw [List.length_take]; omega)
      by_cases hkt : k < t.size
      · have hc8 : t[k].toNat < 256 := t[k].toNat_lt
        by_cases h48 : (48 : Int) ≤ (t[k].toNat : Int)
        · by_cases h57 : (t[k].toNat : Int) ≤ 57
          · have HS := Lib.hid (dv_take t k hkt)
            go_wp2
            go_round
            case rel => exact ⟨k + 1, by omega, by go_num, by rw [HS.out], dig_take t k hkt hd h48 h57⟩
            case measure => simp [intOf]; omega
          · go_wp2
            go_ret2
            exact ⟨PR.no (no_dig HG.out k hkt (by omega)), 0, rfl⟩
        · go_wp2
          go_ret2
          exact ⟨PR.no (no_dig HG.out k hkt (by omega)), 0, rfl⟩
      · obtain rfl : k = t.size := by omega
        have HD := Lib.hid hd
        clear hd hk hkt
        obtain ⟨d, hdd⟩ : ∃ d, M.dv 0 (t.data.toList.take t.size) = d := ⟨_, rfl⟩
        rw [hdd] at hb0 hb1
        have HE := Lib.hid hdd
        rw [hdd]
        clear hdd
        go_wp2_with (go_at_call 80; refine (l1Num_any _ (by omega) (by omega) _).mono ?_; rintro e w' ⟨rfl, k, rfl⟩)
        · go_ret2
          exact ⟨end_no (x := -d) HG.out HE.out (by omega) (by assumption), _, rfl⟩
        · go_ret2
          exact ⟨end_yes (by unfold M.inR; omega) (by assumption), _, rfl⟩
  · have hl1 : decide ((1 : Int) ≤ (t.size : Int) ∧ (t.size : Int) ≤ 6) = false := by rw [decide_eq_false_iff_not]; omega
    have HL := Lib.hid hl
    clear hl
    go_enter Tryd.func61, Tryd.ntmps61
    go_wp2_with (go_at_call 69; refine (l1In_num _ _ _ _).mono ?_; rintro e w' ⟨rfl, rfl⟩)
    go_ret2
    exact ⟨PR.no (no_len HG.out HL.out), 0, rfl⟩

set_option maxRecDepth 100000 in
set_option maxHeartbeats 2000000 in
theorem l1Read_plain (s : ByteArray) (hs : s.size ≤ maxLen) (w : World) (hc : s.size ≤ 1 ∨ (∃ h : 1 < s.size, ((s[0].toNat : Int) == 45) = false)) :
    Calls Tryd.prog 61 #[.string s] w fun e w' => PR s e ∧ ∃ k, w' = w.drewN k := by
  unfold maxLen at hs
  have HG := Lib.hid (signed_plain s (by
    rcases hc with h | ⟨h, h45⟩
    · exact .inl h
    · right
      intro e
      have hl : 0 < s.data.toList.length := by rw [Array.length_toList]; show 0 < s.size; omega
      have e2 : s.data.toList.head? = some s.data.toList[0] := by rw [List.head?_eq_getElem?, List.getElem?_eq_getElem hl]
      have e3 : s.data.toList[0] = s[0] := rfl
      rw [e2, e3] at e
      have : s[0] = 45 := Option.some.inj e
      rw [this] at h45
      simp at h45))
  rcases hc with h1 | ⟨h1, h45⟩
  all_goals
    by_cases hl : 1 ≤ s.size ∧ s.size ≤ 6
    · have hl1 : decide ((1 : Int) ≤ (s.size : Int) ∧ (s.size : Int) ≤ 6) = true := by rw [decide_eq_true_iff]; omega
      obtain ⟨hla, hlb⟩ := hl
      go_enter Tryd.func61, Tryd.ntmps61
      go_wp2_with (go_at_call 69; refine (l1In_num _ _ _ _).mono ?_; rintro e w' ⟨rfl, rfl⟩)
      go_loop [5, 6] (fun n i => ∃ k : Nat, k ≤ s.size ∧ i = .int .i64 k ∧ n = .int .i64 (M.dv 0 (s.data.toList.take k)) ∧ M.allDig (s.data.toList.take k)) (fun _ i => s.size - (intOf i).toNat)
      case atStart => exact ⟨0, Nat.zero_le _, rfl, rfl, fun c hc => by simp at hc⟩
      case round =>
        obtain ⟨k, hk, rfl, rfl, hd⟩ := hrel
        obtain ⟨hb0, hb1⟩ := M.dv6 _ hd (by rw [List.length_take]; omega)
        by_cases hkt : k < s.size
        · have hc8 : s[k].toNat < 256 := s[k].toNat_lt
          by_cases h48 : (48 : Int) ≤ (s[k].toNat : Int)
          · by_cases h57 : (s[k].toNat : Int) ≤ 57
            · have HS := Lib.hid (dv_take s k hkt)
              go_wp2
              go_round
              case rel => exact ⟨k + 1, by omega, by go_num, by rw [HS.out], dig_take s k hkt hd h48 h57⟩
              case measure => simp [intOf]; omega
            · go_wp2
              go_ret2
              exact ⟨PR.no (no_dig HG.out k hkt (by omega)), 0, rfl⟩
          · go_wp2
            go_ret2
            exact ⟨PR.no (no_dig HG.out k hkt (by omega)), 0, rfl⟩
        · obtain rfl : k = s.size := by omega
          have HD := Lib.hid hd
          clear hd hk hkt
          obtain ⟨d, hdd⟩ : ∃ d, M.dv 0 (s.data.toList.take s.size) = d := ⟨_, rfl⟩
          rw [hdd] at hb0 hb1
          have HE := Lib.hid hdd
          rw [hdd]
          clear hdd
          go_wp2_with (go_at_call 80; refine (l1Num_any _ (by omega) (by omega) _).mono ?_; rintro e w' ⟨rfl, k, rfl⟩)
          · go_ret2
            exact ⟨end_no (x := d) HG.out HE.out (by omega) (by assumption), _, rfl⟩
          · go_ret2
            exact ⟨end_yes (by unfold M.inR; omega) (by assumption), _, rfl⟩
    · have hl1 : decide ((1 : Int) ≤ (s.size : Int) ∧ (s.size : Int) ≤ 6) = false := by rw [decide_eq_false_iff_not]; omega
      have HL := Lib.hid hl
      clear hl
      go_enter Tryd.func61, Tryd.ntmps61
      go_wp2_with (go_at_call 69; refine (l1In_num _ _ _ _).mono ?_; rintro e w' ⟨rfl, rfl⟩)
      go_ret2
      exact ⟨PR.no (no_len HG.out HL.out), 0, rfl⟩

theorem l1Read_any (s : ByteArray) (hs : s.size ≤ maxLen) (w : World) :
    Calls Tryd.prog 61 #[.string s] w fun e w' => PR s e ∧ ∃ k, w' = w.drewN k := by
  by_cases h : s.size ≤ 1
  · exact l1Read_plain s hs w (.inl h)
  · by_cases h2 : ((s[0].toNat : Int) == 45) = true
    · exact l1Read_minus s hs w (by omega) h2
    · exact l1Read_plain s hs w (.inr ⟨by omega, by simpa using h2⟩)
end Go.Proofs.YtpmjdppipalfcaaDoor
