/-
  The walk of the exact law of ParseInt.
-/
import Derived.Test.YtjdlkkhkaobpnaaDoorParse
namespace Go.Proofs.YtjdlkkhkaobpnaaDoor
open Go.RowKit

theorem PR.det {s : ByteArray} {e : Ending} {n : Int} (h1 : M.inR n) (h2 : Lib.itoa n = s.data.toList) (h : PR s e) : e = .returned (.tuple #[.int .i64 n, .bool true]) := by
  rcases h with ⟨m, _, hm, rfl⟩ | ⟨hno, _⟩
  · rw [M.itoa_inj (hm.trans h2.symm)]
  · exact absurd h2 (hno n h1)
theorem PR.det_no {s : ByteArray} {e : Ending} (hno : ∀ m : Int, M.inR m → Lib.itoa m ≠ s.data.toList) (h : PR s e) : e = .returned (.tuple #[.int .i64 0, .bool false]) := by
  rcases h with ⟨m, h1, h2, _⟩ | ⟨_, rfl⟩
  · exact absurd h2 (hno m h1)
  · rfl

theorem specParseInt_any (s : ByteArray) (hs : s.size ≤ 1048576) (w : World) :
    Calls Tryd.prog 14 #[.string s] w fun e w' => PR s e ∧ ∃ k, w' = w.drewN k := by
  have hs1 : s.size ≤ maxLen := by unfold maxLen; omega
  have H1 := Lib.hid hs1
  clear hs1
  have key : ∀ R : Ending, (∀ w, Calls Tryd.prog 29 #[.string s] w fun e w' => e = R ∧ ∃ k, w' = w.drewN k) →
      (∃ n b, R = .returned (.tuple #[.int .i64 n, .bool b])) → ∀ w, Calls Tryd.prog 14 #[.string s] w fun e w' => e = R ∧ ∃ k, w' = w.drewN k := by
    rintro R hc ⟨n, b, rfl⟩ w
    have HC := Lib.hid hc
    clear hc
    go_enter Tryd.func14, Tryd.ntmps14
    go_wp2_with (go_at_call 29; refine (HC.out _).mono ?_; rintro e w' ⟨rfl, k, rfl⟩)
    go_ret2
    exact ⟨rfl, _, rfl⟩
  by_cases hP : ∃ n, M.inR n ∧ Lib.itoa n = s.data.toList
  · obtain ⟨n, h1, h2⟩ := hP
    refine (key _ (fun w => (l1Read_any s H1.out w).mono fun e w' h => ⟨PR.det h1 h2 h.1, h.2⟩) ⟨_, _, rfl⟩ w).mono ?_
    rintro e w' ⟨rfl, hk⟩
    exact ⟨PR.yes h1 h2, hk⟩
  · have hno : ∀ m : Int, M.inR m → Lib.itoa m ≠ s.data.toList := fun m h1 h2 => hP ⟨m, h1, h2⟩
    refine (key _ (fun w => (l1Read_any s H1.out w).mono fun e w' h => ⟨PR.det_no hno h.1, h.2⟩) ⟨_, _, rfl⟩ w).mono ?_
    rintro e w' ⟨rfl, hk⟩
    exact ⟨PR.no hno, hk⟩

theorem fnExactParseInt_walk (w : World) (a0 : ByteArray) (w0 : a0.size ≤ maxLen) (_hsh : w.ShapedOpen Tryd.prog) (hL : laidMetH Tryd.prog Rows.fnExactParseIntRow.laid w) :
    Calls Tryd.prog 5 #[.string a0] w fun e w' => e = .returned (.bool true) ∧ Below w.heap.size w w' := by
  have ht : Tab w := tab_of_laid hL rfl (by simp [Rows.fnExactParseIntRow])
  have he : Errs w := errs_of_laid hL rfl (by simp [Rows.fnExactParseIntRow]) (by simp [Rows.fnExactParseIntRow])
  clear hL
  unfold maxLen at w0
  by_cases hs : a0.size ≤ 1048576
  · have key : ∀ n b, (∀ e, PR a0 e → e = .returned (.tuple #[.int .i64 n, .bool b])) →
        Calls Tryd.prog 5 #[.string a0] w fun e w' => e = .returned (.bool true) ∧ Below w.heap.size w w' := fun n b hdet => by
      have hs1 : ∀ w, Calls Tryd.prog 14 #[.string a0] w fun e w' => e = .returned (.tuple #[.int .i64 n, .bool b]) ∧ ∃ k, w' = w.drewN k :=
        fun w => (specParseInt_any a0 hs w).mono fun e w' h => ⟨hdet e h.1, h.2⟩
      have hi1 : ∀ w, Tab w → Errs w → Calls Tryd.prog 13 #[.string a0] w fun e w' => e = .returned (.tuple #[.int .i64 n, .bool b]) ∧ Below w.heap.size w w' :=
        fun w ht he => (implParseInt_any a0 hs w ht he).mono fun e w' h => ⟨hdet e h.1, h.2⟩
      have HS := Lib.hid hs1
      have HI := Lib.hid hi1
      clear hs1 hi1
      clear hdet
      go_enter Tryd.func5, Tryd.ntmps5
      go_wp2_with (first | (go_at_call 14; refine (HS.out _).mono ?_; rintro e w' ⟨rfl, k, rfl⟩) | (go_at_call 13; refine (HI.out _ (ht.below (bdrew _ _)) (he.below (bdrew _ _))).mono ?_; rintro e w' ⟨rfl, hb⟩))
      go_ret
      exact ⟨rfl, (bdrew _ _).trans hb⟩
    by_cases hP : ∃ n, M.inR n ∧ Lib.itoa n = a0.data.toList
    · obtain ⟨n, h1, h2⟩ := hP
      exact key n true fun e h => PR.det h1 h2 h
    · exact key 0 false fun e h => PR.det_no (fun m h1 h2 => hP ⟨m, h1, h2⟩) h
  · go_enter Tryd.func5, Tryd.ntmps5
    go_wp2_with fail
    go_ret
    exact ⟨rfl, Below.refl _ _⟩
end Go.Proofs.YtjdlkkhkaobpnaaDoor
