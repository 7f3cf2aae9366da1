/-
  Numbers in texts: what the program's 'numberIn' reads; where a text is cut. (Chapters 4 and 5 share it.)
-/
import Derived.Test.YtpmjdppipalfcaaDoorRdV
import Derived.Test.YtpmjdppipalfcaaDoorParse
namespace Go.Proofs.YtpmjdppipalfcaaDoor
open Go.RowKit Go.Lib
set_option linter.unusedVariables false

set_option maxHeartbeats 400000 in
theorem numberIn_any (s : ByteArray) (hs : s.size ≤ 1048576) (w : World) (ht : Tab w) (he : Errs w) :
    Calls Tryd.prog 77 #[.string s] w fun e w' => e = .returned (.int .i64 (rdN s)) ∧ Below w.heap.size w w' := by
  have HC := Lib.hid ((implParseInt_any s hs w ht he).mono fun e w' (h : PR s e ∧ Below w.heap.size w w') => (⟨PR_val h.1, h.2⟩ : e = .returned (.tuple #[.int .i64 (rdN s), .bool (rdB s)]) ∧ Below w.heap.size w w'))
  generalize rdN s = n at HC
  generalize rdB s = b at HC
  clear ht he hs
  go_enter Tryd.func77, Tryd.ntmps77
  go_wp2_with fail
  refine HC.out.mono ?_
  rintro e w1 ⟨rfl, l1⟩
  go_wp2_with fail
  go_ret
  exact ⟨rfl, l1⟩
end Go.Proofs.YtpmjdppipalfcaaDoor
