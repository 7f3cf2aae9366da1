/-
  Numbers in texts: what the program's 'numberIn' reads; where a text is cut. (Chapters 4 and 5 share it.)
-/
import Derived.Test.YtneimcacpbepfabDoorRdV
import Derived.Test.YtneimcacpbepfabDoorParse
namespace Go.Proofs.YtneimcacpbepfabDoor
open Go.RowKit Go.Lib
set_option linter.unusedVariables false

set_option maxHeartbeats 400000 in
theorem numberIn_any (s : ByteArray) (hs : s.size ≤ 1048576) (w : World) (ht : Tab w) (he : Errs w) :
    Calls Tryd.prog 21 #[.string s] w fun e w' => e = .returned (.int .i64 (rdN s)) ∧ Below w.heap.size w w' := by
  have HC := Lib.hid ((implParseInt_any s hs w ht he).mono fun e w' (h : PR s e ∧ Below w.heap.size w w') => (⟨PR_val h.1, h.2⟩ : e = .returned (.tuple #[.int .i64 (rdN s), .bool (rdB s)]) ∧ Below w.heap.size w w'))
  generalize rdN s = n at HC
  generalize rdB s = b at HC
  clear ht he hs
  go_enter Tryd.func21, Tryd.ntmps21
  go_wp2_with fail
  refine HC.out.mono ?_
  rintro e w1 ⟨rfl, l1⟩
  go_wp2_with fail
  go_ret
  exact ⟨rfl, l1⟩
/-- The library's bound on a search holds some number. -/
def MLOk (w : World) : Prop := ∃ m, w.cell? ⟨0, 0, none⟩ = some (.int .i64 m)
theorem MLOk.below {w w' : World} (h : MLOk w) (hb : Below w.heap.size w w') : MLOk w' := by
  obtain ⟨m, hm⟩ := h
  exact ⟨m, (hb.cell (p := ⟨0, 0, none⟩) (World.block_lt_of_cell? w _ hm)).trans hm⟩
theorem mlOk_of {w : World} (h : w.ShapedOpen Tryd.prog) : MLOk w := Tryd.laysM145.s1_3 w h
def cutB (s : ByteArray) : Bool := (Lib.cut s.data.toList [45]).2.2
theorem cut5_any (s : ByteArray) (hs : s.size ≤ 1048576) (w : World) (hm : MLOk w) :
    Calls Tryd.prog 20 #[.string s, .string ⟨#[45]⟩] w fun e w' => e = .returned (.tuple #[.string (preB s), .string (posB s), .bool (cutB s)]) ∧ Below w.heap.size w w' := by
  obtain ⟨m, hm⟩ := hm
  refine (Tryd.strings_Cut s ⟨#[45]⟩ m w (by omega) hm).mono fun e w' h => ?_
  obtain ⟨h1, q, h2⟩ := h
  exact ⟨h1, by rw [h2]; exact bdrew _ _⟩
end Go.Proofs.YtneimcacpbepfabDoor
