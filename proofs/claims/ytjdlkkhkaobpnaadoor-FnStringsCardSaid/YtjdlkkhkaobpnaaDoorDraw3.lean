/-
  The draws of FormatInt, ParseInt and AppendChecksum.
-/
import Derived.Test.YtjdlkkhkaobpnaaDoorAmong
import Derived.Test.YtjdlkkhkaobpnaaDoorNum
import Derived.Laws.IdiomStrings
namespace Go.Proofs.YtjdlkkhkaobpnaaDoor
open Go.RowKit

theorem grown_below {w w' : World} {B0 B : Nat} (h : w.grownBy w' (some B)) (hB : B0 ≤ w.heap.size) (hr : B0 ≤ B) : Below B0 w w' := (Below.refl B0 w).grown h hB (fun k e => by cases e; exact hr)

theorem drawFormat_any (v : Value) (z : List Int) (w : World) (hrow : Row w v z.length (z.map (Value.int .u8))) (hz : ∀ x ∈ z, 0 ≤ x ∧ x < 256) :
    Calls Tryd.prog 9 #[v] w fun e w' => ∃ n : Int, e = .returned (.int .i64 n) ∧ Below w.heap.size w w' := by
  have HC0 := Lib.hid (cu_new w v z hrow hz)
  obtain ⟨a0, cap0, rfl, _, _, _⟩ := row_open hrow
  clear hrow hz
  go_enter Tryd.func9, Tryd.ntmps9
  go_wp2_with fail
  refine (pick_any w.heap.size 0 1000 z _ HC0.out (by omega) (by omega) (by omega)).mono ?_
  rintro e w1 ⟨k, hk, rfl, hc, hg⟩
  have HC := Lib.hid hc
  have HG := Lib.hid hg
  clear hc hg
  go_wp2_with fail
  refine (among_any w.heap.size 2 z _ [0, 1, -1, 10, 999999, -999999, 1000000, -1000000, (k : Int) - 500] _ (HC.out.grown (World.grownBy_alloc _ _ none)) (by omega) (by simp) (by simp) (fun w' hg => row_fresh (xs := [.int .i64 0, .int .i64 1, .int .i64 (-1), .int .i64 10, .int .i64 999999, .int .i64 (-999999), .int .i64 1000000, .int .i64 (-1000000), .int .i64 ((k : Int) - 500)]) (n := 9) rfl (by decide) HC.out.lt hg)).mono ?_
  rintro e w2 ⟨n, _, rfl, _, hg2⟩
  have HG2 := Lib.hid hg2
  clear hg2
  go_wp2_with fail
  go_ret
  have b1 : Below w.heap.size w w1 := ((Below.refl _ _).alloc (Nat.le_refl _) _).trans (grown_below HG.out (by simp) (Nat.le_refl _))
  exact ⟨n, rfl, (b1.alloc b1.size _).trans (grown_below HG2.out (by have := b1.size; simp; omega) (Nat.le_refl _))⟩

def numL : List ByteArray := [⟨#[]⟩, ⟨#[45]⟩, ⟨#[45, 48]⟩, ⟨#[48, 48]⟩, ⟨#[48, 49]⟩, ⟨#[45, 45, 49]⟩, ⟨#[49, 120]⟩, ⟨#[57, 57, 57, 57, 57, 57]⟩, ⟨#[49, 48, 48, 48, 48, 48, 48]⟩, ⟨#[45, 57, 57, 57, 57, 57, 57]⟩, ⟨#[49, 56, 52, 52, 54, 55, 52, 52, 48, 55, 51, 55, 48, 57, 53, 53, 49, 54, 49, 55]⟩]
theorem numL_size : ∀ x ∈ numL, x.size ≤ 20 := by
  intro x hx
  simp only [numL, List.mem_cons, List.not_mem_nil, or_false] at hx
  rcases hx with rfl | rfl | rfl | rfl | rfl | rfl | rfl | rfl | rfl | rfl | rfl <;> decide

theorem itoa_small (x : Int) (h0 : -1000 ≤ x) (h1 : x ≤ 1000) : (⟨(Lib.itoa x).toArray⟩ : ByteArray).size ≤ 1100 := by
  rw [size_of_list]
  unfold Lib.itoa
  split
  · rw [List.length_cons, Lib.decDigits_length]
    have := nDigits_le x.natAbs
    omega
  · rw [Lib.decDigits_length]
    have := nDigits_le x.toNat
    omega

theorem drawParse_any (v : Value) (z : List Int) (w : World) (hrow : Row w v z.length (z.map (Value.int .u8))) (hz : ∀ x ∈ z, 0 ≤ x ∧ x < 256) :
    Calls Tryd.prog 12 #[v] w fun e w' => ∃ t : ByteArray, t.size ≤ 2000 ∧ e = .returned (.string t) ∧ Below w.heap.size w w' := by
  have HC0 := Lib.hid (cu_new w v z hrow hz)
  obtain ⟨a0, cap0, rfl, _, _, _⟩ := row_open hrow
  clear hrow hz
  go_enter Tryd.func12, Tryd.ntmps12
  go_wp2_with fail
  refine (one_any w.heap.size 0 2 z _ HC0.out (by omega) (by omega) (by omega)).mono ?_
  rintro e w1 ⟨b, rfl, hc, hg⟩
  have HC := Lib.hid hc
  have HG := Lib.hid hg
  clear hc hg
  have b1 : Below w.heap.size w w1 := ((Below.refl _ _).alloc (Nat.le_refl _) _).trans (grown_below HG.out (by simp) (Nat.le_refl _))
  have HB := Lib.hid b1
  clear b1
  cases b with
  | true =>
    go_wp2_with fail
    refine (of_any w.heap.size 2 z _ numL _ (HC.out.grown (World.grownBy_alloc _ _ none)) (by omega) (by decide) (by decide) (fun w' hg => row_fresh (xs := numL.map Value.string) (n := numL.length) (List.length_map _).symm (by decide) HC.out.lt hg)).mono ?_
    rintro e w2 ⟨y, hy, rfl, _, hg2⟩
    have HY := Lib.hid (numL_size y hy)
    have HG2 := Lib.hid hg2
    clear hy hg2
    go_wp2_with fail
    go_ret
    exact ⟨y, by have := HY.out; omega, rfl, (HB.out.alloc HB.out.size _).trans (grown_below HG2.out (by have := HB.out.size; simp; omega) (Nat.le_refl _))⟩
  | false =>
    go_wp2_with fail
    refine (pick_any w.heap.size 2 2000 z _ HC.out (by omega) (by omega) (by omega)).mono ?_
    rintro e w2 ⟨k, hk, rfl, _, hg2⟩
    have HG2 := Lib.hid hg2
    clear hg2
    go_wp2_with fail
    refine (l1Num_any ((k : Int) - 1000) (by omega) (by omega) _).mono ?_
    rintro e w3 ⟨rfl, q, rfl⟩
    have HS := Lib.hid (itoa_small ((k : Int) - 1000) (by omega) (by omega))
    go_wp2_with fail
    go_ret
    have b2 : Below w.heap.size w w2 := HB.out.trans (grown_below HG2.out HB.out.size (Nat.le_refl _))
    exact ⟨_, by have := HS.out; omega, rfl, b2.trans ((bdrew _ _).mono b2.size)⟩
end Go.Proofs.YtjdlkkhkaobpnaaDoor
