/-
  The draws of a packet's text and of its line.
-/
import Derived.Test.YtncjplcefdeckaaGreatDoorSpoilt
import Derived.Test.YtncjplcefdeckaaGreatDoorDrawPkt
import Derived.Test.YtncjplcefdeckaaGreatDoorPkt3
import Derived.Test.YtncjplcefdeckaaGreatDoorPktLine
import Derived.Test.YtncjplcefdeckaaGreatDoorPktParse
namespace Go.Proofs.YtncjplcefdeckaaGreatDoor
open Go.RowKit Go.Lib
set_option linter.unusedVariables false

theorem Cu.below {w w' : World} {B m : Nat} {z : List Int} (h : Cu w B z m) (hb : Below w.heap.size w w') : Cu w' B z m :=
  h.grown ⟨hb.os, hb.tape, hb.output, hb.size, fun k hk _ => hb.block k hk⟩
theorem g_below {a b c : World} {row : Option Nat} (h1 : a.grownBy b row) (h2 : Below b.heap.size b c) : a.grownBy c row :=
  ⟨h2.os.trans h1.os, h2.tape.trans h1.tape, h2.output.trans h1.output, Nat.le_trans h1.size h2.size, fun k hk hn => (h2.block k (Nat.lt_of_lt_of_le hk h1.size)).trans (h1.block k hk hn)⟩
theorem lineB_size {k n t l : Int} {d : ByteArray} (h : pktOk k n t l d = true) : (lineB k n t l d).size ≤ 100 := by
  obtain ⟨_, ⟨n0, n1⟩, ⟨t0, t1⟩, ⟨l0, l1⟩, _, _, hd8, _⟩ := pktOk_bd h
  have a := itoa_len n0 (show n ≤ 999999 by omega)
  have b := itoa_len t0 (show t ≤ 999999 by omega)
  have c := itoa_len l0 (show l ≤ 999999 by omega)
  have e : (wordK k).length ≤ 7 := by
    have := wordB_size k
    unfold wordB at this
    simpa [ByteArray.size] using this
  have f := tailD_len hd8
  have g : (lineB k n t l d).size = (lineL k n t l d).length := by simp [lineB, ByteArray.size]
  rw [g]
  simp only [lineL, List.length_append, List.length_cons, List.length_nil]
  omega
set_option maxHeartbeats 1000000 in
theorem drawParseLine_any (v : Value) (z : List Int) (w : World) (hrow : Row w v z.length (z.map (Value.int .u8))) (hz : ∀ x ∈ z, 0 ≤ x ∧ x < 256) :
    Calls Tryz.prog 9 #[v] w fun e w' => ∃ s : ByteArray, s.size ≤ 1000 ∧ e = .returned (.string s) ∧ Below w.heap.size w w' := by
  have HC0 := Lib.hid (cu_new w v z hrow hz)
  obtain ⟨a0, cap0, rfl, _, _, _⟩ := row_open hrow
  clear hrow hz
  go_enter Tryz.func9, Tryz.ntmps9
  go_wp2_with fail
  refine (packet_any w.heap.size 0 z _ HC0.out (by omega)).mono ?_
  rintro e w1 ⟨k, n, t, l, d, hok, rfl, hc, hg⟩
  have HC1 := Lib.hid hc
  have HG1 := Lib.hid (g_trans (World.grownBy_alloc w (.cells #[.slice a0 z.length cap0, .int .i64 0, .int .u64 0] 48) (some w.heap.size)) hg)
  have HE := Lib.hid (fun W => l4Line_any k n t l d W hok)
  have hs : (lineB k n t l d).size ≤ 500 := by have := lineB_size hok; omega
  generalize lineB k n t l d = s at HE hs
  unfold pv at HE ⊢
  clear hc hg hok HC0
  go_wp2_with fail
  refine (HE.out _).mono ?_
  rintro e w2 ⟨rfl, l2⟩
  have HC2 := Lib.hid (HC1.out.below l2)
  have HG2 := Lib.hid (g_below HG1.out l2)
  clear l2 HC1 HG1
  go_wp2_with fail
  refine (one_any w.heap.size 28 4 z _ HC2.out (by omega) (by omega) (by omega)).mono ?_
  rintro e w3 ⟨b, rfl, hc, hg⟩
  have HC3 := Lib.hid hc
  have HG3 := Lib.hid (g_trans HG2.out hg)
  clear hc hg HC2 HG2
  cases b with
  | true =>
    go_wp2_with fail
    refine (spoilt_any w.heap.size 30 z s _ _ HC3.out (by omega) (by omega) (by decide) (by decide)).mono ?_
    rintro e w4 ⟨s', hs', rfl, hc, hg⟩
    have HB := Lib.hid (gbelow (g_trans HG3.out hg) (Nat.le_refl _) (Nat.le_refl _))
    clear hc hg
    go_wp2_with fail
    go_ret
    exact ⟨s', by omega, rfl, HB.out⟩
  | false =>
    go_wp2_with fail
    go_ret
    exact ⟨s, by omega, rfl, gbelow HG3.out (Nat.le_refl _) (Nat.le_refl _)⟩
end Go.Proofs.YtncjplcefdeckaaGreatDoor
