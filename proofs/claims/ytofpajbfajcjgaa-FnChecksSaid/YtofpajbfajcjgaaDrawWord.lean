/-
  The draws of chapter 3 that draw words and texts.
-/
import Derived.Test.YtofpajbfajcjgaaDrawn
import Derived.Laws.BytesArg
namespace Go.Proofs.Ytofpajbfajcjgaa
open Go.RowKit
set_option linter.unusedVariables false

def wordL : List Int := [0, 1, 255, 256, 4660, 32768, 65534, 65535, -1, 65536]
theorem wordL_bd : ∀ x ∈ wordL, -1 ≤ x ∧ x ≤ 65536 := by
  intro x hx
  simp only [wordL, List.mem_cons, List.not_mem_nil, or_false] at hx
  omega

theorem word_any (B m : Nat) (z : List Int) (w : World) (h : Cu w B z m) (hm : m ≤ 800000) :
    Calls Try.prog 55 #[.pointer (some ⟨B, 0, none⟩)] w fun e w' => ∃ x : Int, -1 ≤ x ∧ x ≤ 65536 ∧ e = .returned (.int .i64 x) ∧ Cu w' B z (m + 4) ∧ w.grownBy w' (some B) := by
  have HH := Lib.hid h
  clear h
  go_enter Try.func55, Try.ntmps55
  go_wp2_with fail
  refine (pick_any B m 40 z _ (HH.out.grown (World.grownBy_alloc _ _ none)) (by omega) (by omega) (by omega)).mono ?_
  rintro e w1 ⟨p, hp, rfl, hc, hg⟩
  have HR := Lib.hid (fun w' (hg' : w1.grownBy w' (some B)) => row_fresh (xs := wordL.map (Value.int .i64)) (n := 10) rfl (by decide) HH.out.lt (g_trans hg hg'))
  have HC := Lib.hid hc
  have HG := Lib.hid (g_trans (World.grownBy_alloc w (.cells (wordL.map (Value.int .i64)).toArray 3) (some B)) hg)
  clear hc hg
  obtain ⟨q, hq, hq1⟩ : ∃ q : Nat, (p : Int) / 38 = (q : Int) ∧ q ≤ 1 := ⟨p / 38, by omega, by omega⟩
  have hk1 : 1 ≤ (wordL.take (8 + q)).length := by rw [List.length_take]; show 1 ≤ min (8 + q) 10; omega
  have hk2 : (wordL.take (8 + q)).length = 8 + q := by rw [List.length_take]; show min (8 + q) 10 = 8 + q; omega
  go_wp2_with fail
  refine (among_any B (m + 2) z _ (wordL.take (8 + q)) _ HC.out (by omega) hk1 (by omega) (fun w' hg' => by rw [hk2, List.map_take]; exact row_head' (HR.out w' hg') (by omega))).mono ?_
  rintro e w2 ⟨x, hx, rfl, hc2, hg2⟩
  obtain ⟨x0, x1⟩ := wordL_bd x (List.mem_of_mem_take hx)
  have HC2 := Lib.hid hc2
  have HG2 := Lib.hid hg2
  clear hx hc2 hg2 hk1 hk2
  go_wp2_with fail
  go_ret
  exact ⟨x, x0, x1, rfl, HC2.out, g_trans HG.out HG2.out⟩
set_option maxHeartbeats 2000000 in
theorem wordList_any (B m : Nat) (z : List Int) (w : World) (h : Cu w B z m) (hm : m ≤ 600000) :
    Calls Try.prog 53 #[.pointer (some ⟨B, 0, none⟩)] w fun e w' => ∃ (g c : Nat) (zs : List Int), e = .returned (.slice (some ⟨g, 0, none⟩) zs.length c) ∧ zs.length ≤ 41 ∧ Drawn w w' B z (m + 200) g c zs := by
  obtain ⟨i0, hi, hz0, hz1, hz2⟩ := info_parts infoInt
  have HH := Lib.hid h
  have hBl := h.lt
  have hd0 : Drawn w (w.alloc (.cells #[] 3)) B z m w.heap.size 0 [] :=
    ⟨World.ownsRow_made w #[] 0 (Nat.le_refl _) (Nat.zero_le _) rfl, h.grown (World.grownBy_alloc _ _ none), World.grownBy_alloc _ _ _, by simp, hBl⟩
  have HD0 := Lib.hid hd0
  clear h hd0
  go_enter Try.func53, Try.ntmps53
  go_wp2_with fail
  refine (pick_any B m 8 z _ HD0.out.2.1 (by omega) (by omega) (by omega)).mono ?_
  rintro e w2 ⟨p, hp, rfl, hc2, hg2⟩
  have HD2 := Lib.hid (HD0.out.cur hc2 hg2)
  clear hc2 hg2 HD0
  go_wp2_with fail
  go_loopw [3, 4] (fun v q wr => ∃ (k g c : Nat) (zs : List Int), zs.length + k ≤ 7 ∧ q = .int .i64 k ∧ v = .slice (some ⟨g, 0, none⟩) zs.length c ∧ Hid (Drawn w wr B z (m + 2 + 4 * zs.length) g c zs)) (fun _ q _ => (intOf q).toNat)
  case atStart => exact ⟨p, _, _, [], by simp; omega, rfl, rfl, HD2⟩
  case round =>
    clear HD2
    obtain ⟨k, g, c, zs, hk, rfl, rfl, HD⟩ := hrel
    by_cases hk0 : 0 < k
    · go_wp2_with fail
      refine (word_any B (m + 2 + 4 * zs.length) z _ HD.out.2.1 (by omega)).mono ?_
      rintro e w3 ⟨y, y0, y1, rfl, hc3, hg3⟩
      have HD3 := Lib.hid (HD.out.cur hc3 hg3)
      have hsz := HD3.out.2.2.1.size
      clear hc3 hg3
      go_wp2_with (at_builtin; refine wpList_append_own _ rfl _ _ 24 rfl w.heap.size 3 i0 (.int .i64 0) 1 8 Try.underlying24 hi hz0 hz1 hz2 rfl (by decide) _ _ _ rfl (HD3.out.1.alloc _) ⟨w3.heap.size, 0, none⟩ 1 1 [.int .i64 y] rfl rfl (cell_one_new _ _ _) (by intro u hu; simp at hu; subst hu; rfl) (by unfold maxLen; omega) (by omega) (by simp; omega) ?_; intro v' w4 hown' hgrow _)
      obtain ⟨g', c', rfl, hd4⟩ := HD3.out.app (by omega) (by omega) hown' hgrow
      have HD4 := Lib.hid hd4
      clear hown' hgrow hd4
      go_roundw
      case rel => exact ⟨k - 1, g', c', zs ++ [y], by simp; omega, by congr 1; omega, rfl, Lib.hid (HD4.out.mono (by simp; omega))⟩
      case measure => (first | (simp [intOf]; done) | (simp [intOf]; omega))
    · obtain rfl : k = 0 := by omega
      go_wp2_with fail
      refine (one_any B (m + 2 + 4 * zs.length) 24 z _ HD.out.2.1 (by omega) (by omega) (by omega)).mono ?_
      rintro e w3 ⟨b, rfl, hc3, hg3⟩
      have HD3 := Lib.hid (HD.out.cur hc3 hg3)
      have hsz := HD3.out.2.2.1.size
      clear hc3 hg3
      cases b with
      | true =>
        go_wp2_with fail
        go_loopw [3] (fun v wr => ∃ (g c : Nat) (zs : List Int), zs.length ≤ 41 ∧ v = .slice (some ⟨g, 0, none⟩) zs.length c ∧ Hid (Drawn w wr B z (m + 50 + 2 * zs.length) g c zs)) (fun v _ => 41 - (match v with | .slice _ n _ => n | _ => 0))
        case atStart => exact ⟨g, c, zs, by omega, rfl, Lib.hid (HD3.out.mono (by omega))⟩
        case round =>
          clear HD3 HD hsz
          obtain ⟨g, c, zs, hzl, rfl, HD⟩ := hrel
          go_wp2_with fail
          refine (pick_any B (m + 50 + 2 * zs.length) 3 z _ HD.out.2.1 (by omega) (by omega) (by omega)).mono ?_
          rintro e w4 ⟨b, hb, rfl, hc4, hg4⟩
          have HD4 := Lib.hid (HD.out.cur hc4 hg4)
          have hsz4 := HD4.out.2.2.1.size
          clear hc4 hg4
          by_cases hgo : zs.length < 39 + b
          · have hg1' : (zs.length : Int) < 39 + (b : Int) := by omega
            go_wp2_with (at_builtin; refine wpList_append_own _ rfl _ _ 24 rfl w.heap.size 3 i0 (.int .i64 0) 1 8 Try.underlying24 hi hz0 hz1 hz2 rfl (by decide) _ _ _ rfl (HD4.out.1.alloc _) ⟨w4.heap.size, 0, none⟩ 1 1 [.int .i64 7] rfl rfl (cell_one_new _ _ _) (by intro u hu; simp at hu; subst hu; rfl) (by unfold maxLen; omega) (by omega) (by simp; omega) ?_; intro v' w5 hown' hgrow _)
            obtain ⟨g', c', rfl, hd5⟩ := HD4.out.app (by omega) (by omega) hown' hgrow
            have HD5 := Lib.hid hd5
            clear hown' hgrow hd5
            go_roundw
            case rel => exact ⟨g', c', zs ++ [7], by simp; omega, rfl, Lib.hid (HD5.out.mono (by simp; omega))⟩
            case measure => (first | (simp; done) | (simp; omega))
          · have hg1' : ¬ (zs.length : Int) < 39 + (b : Int) := by omega
            go_wp2_with fail
            go_ret
            exact ⟨g, c, zs, rfl, hzl, HD4.out.mono (by omega)⟩
      | false =>
        go_wp2_with fail
        go_ret
        exact ⟨g, c, zs, rfl, by omega, HD3.out.mono (by omega)⟩
theorem drawn_below {w w' : World} {B m g c : Nat} {z zs : List Int} {o : Obj} (hB : B = w.heap.size) (h : Drawn (w.alloc o) w' B z m g c zs) :
    w'.ownsRow w.heap.size 3 1 (.slice (some ⟨g, 0, none⟩) zs.length c) zs.length (zs.map (Value.int .i64)) ∧ Below w.heap.size w w' := by
  subst hB
  refine ⟨own_base h.1 (by simp), ?_⟩
  exact ((Below.refl w.heap.size w).alloc (Nat.le_refl _) o).grown h.2.2.1 (by simp) (fun k hk => by have e : w.heap.size = k := Option.some.inj hk; omega)
theorem grown_of_below {w w' : World} (h : Below w.heap.size w w') : w.grownBy w' none := ⟨h.os, h.tape, h.output, h.size, fun k hk _ => h.block k hk⟩

theorem drawWordSum_any (v : Value) (z : List Int) (w : World) (hrow : Row w v z.length (z.map (Value.int .u8))) (hz : ∀ x ∈ z, 0 ≤ x ∧ x < 256) :
    Calls Try.prog 46 #[v] w fun e w' => ∃ (g c : Nat) (zs : List Int), e = .returned (.slice (some ⟨g, 0, none⟩) zs.length c) ∧ zs.length ≤ 41 ∧ w'.ownsRow w.heap.size 3 1 (.slice (some ⟨g, 0, none⟩) zs.length c) zs.length (zs.map (Value.int .i64)) ∧ Below w.heap.size w w' := by
  have HC0 := Lib.hid (cu_new w v z hrow hz)
  obtain ⟨a0, cap0, rfl, _, _, _⟩ := row_open hrow
  clear hrow hz
  go_enter Try.func46, Try.ntmps46
  go_wp2_with fail
  refine (wordList_any w.heap.size 0 z _ HC0.out (by omega)).mono ?_
  rintro e w1 ⟨g, c, zs, rfl, hzl, hd⟩
  have HD := Lib.hid (drawn_below rfl hd)
  clear hd
  go_wp2_with fail
  go_ret
  exact ⟨g, c, zs, rfl, hzl, HD.out.1, HD.out.2⟩
theorem drawSealWords_any (v : Value) (z : List Int) (w : World) (hrow : Row w v z.length (z.map (Value.int .u8))) (hz : ∀ x ∈ z, 0 ≤ x ∧ x < 256) :
    Calls Try.prog 15 #[v] w fun e w' => ∃ (g c : Nat) (zs : List Int), e = .returned (.slice (some ⟨g, 0, none⟩) zs.length c) ∧ zs.length ≤ 41 ∧ w'.ownsRow w.heap.size 3 1 (.slice (some ⟨g, 0, none⟩) zs.length c) zs.length (zs.map (Value.int .i64)) ∧ Below w.heap.size w w' := by
  have HC := Lib.hid (drawWordSum_any v z w hrow hz)
  obtain ⟨a0, cap0, rfl, _, _, _⟩ := row_open hrow
  clear hrow hz
  go_enter Try.func15, Try.ntmps15
  go_wp2_with fail
  refine HC.out.mono ?_
  rintro e w1 ⟨g, c, zs, rfl, hzl, ho, hb⟩
  have HO := Lib.hid ho
  have HB := Lib.hid hb
  clear ho hb
  go_wp2_with fail
  go_ret
  exact ⟨g, c, zs, rfl, hzl, HO.out, HB.out⟩
theorem drawWordCheck_any (v : Value) (z : List Int) (w : World) (hrow : Row w v z.length (z.map (Value.int .u8))) (hz : ∀ x ∈ z, 0 ≤ x ∧ x < 256) :
    Calls Try.prog 30 #[v] w fun e w' => ∃ (g c : Nat) (zs : List Int), e = .returned (.slice (some ⟨g, 0, none⟩) zs.length c) ∧ zs.length ≤ 41 ∧ w'.ownsRow w.heap.size 3 1 (.slice (some ⟨g, 0, none⟩) zs.length c) zs.length (zs.map (Value.int .i64)) ∧ Below w.heap.size w w' := by
  have HC := Lib.hid (drawWordSum_any v z w hrow hz)
  obtain ⟨a0, cap0, rfl, _, _, _⟩ := row_open hrow
  clear hrow hz
  go_enter Try.func30, Try.ntmps30
  go_wp2_with fail
  refine HC.out.mono ?_
  rintro e w1 ⟨g, c, zs, rfl, hzl, ho, hb⟩
  have HO := Lib.hid ho
  have HB := Lib.hid hb
  clear ho hb
  go_wp2_with fail
  go_ret
  exact ⟨g, c, zs, rfl, hzl, HO.out, HB.out⟩
theorem drawUpd_any (v : Value) (z : List Int) (w : World) (hrow : Row w v z.length (z.map (Value.int .u8))) (hz : ∀ x ∈ z, 0 ≤ x ∧ x < 256) :
    Calls Try.prog 27 #[v] w fun e w' => ∃ a b c : Int, e = .returned (.tuple #[.int .i64 a, .int .i64 b, .int .i64 c]) ∧ Below w.heap.size w w' := by
  have HC0 := Lib.hid (cu_new w v z hrow hz)
  obtain ⟨a0, cap0, rfl, _, _, _⟩ := row_open hrow
  clear hrow hz
  go_enter Try.func27, Try.ntmps27
  go_wp2_with fail
  refine (word_any w.heap.size 0 z _ HC0.out (by omega)).mono ?_
  rintro e w1 ⟨a, _, _, rfl, hc, hg⟩
  have HC := Lib.hid hc
  have HG := Lib.hid (g_trans (World.grownBy_alloc w (.cells #[.slice a0 z.length cap0, .int .i64 0, .int .u64 0] 62) (some w.heap.size)) hg)
  clear hc hg
  go_wp2_with fail
  refine (word_any w.heap.size _ z _ HC.out (by omega)).mono ?_
  rintro e w2 ⟨b, _, _, rfl, hc, hg⟩
  have HC2 := Lib.hid hc
  have HG2 := Lib.hid (g_trans HG.out hg)
  clear hc hg
  go_wp2_with fail
  refine (word_any w.heap.size _ z _ HC2.out (by omega)).mono ?_
  rintro e w3 ⟨c, _, _, rfl, hc, hg⟩
  have HG3 := Lib.hid (g_trans HG2.out hg)
  clear hc hg
  go_wp2_with fail
  go_ret3
  exact ⟨a, b, c, rfl, gbelow HG3.out (Nat.le_refl _) (Nat.le_refl _)⟩
theorem drawAddW_any (v : Value) (z : List Int) (w : World) (hrow : Row w v z.length (z.map (Value.int .u8))) (hz : ∀ x ∈ z, 0 ≤ x ∧ x < 256) :
    Calls Try.prog 38 #[v] w fun e w' => ∃ a b : Int, e = .returned (.tuple #[.int .i64 a, .int .i64 b]) ∧ Below w.heap.size w w' := by
  have HC0 := Lib.hid (cu_new w v z hrow hz)
  obtain ⟨a0, cap0, rfl, _, _, _⟩ := row_open hrow
  clear hrow hz
  go_enter Try.func38, Try.ntmps38
  go_wp2_with fail
  refine (word_any w.heap.size 0 z _ HC0.out (by omega)).mono ?_
  rintro e w1 ⟨a, _, _, rfl, hc, hg⟩
  have HC := Lib.hid hc
  have HG := Lib.hid (g_trans (World.grownBy_alloc w (.cells #[.slice a0 z.length cap0, .int .i64 0, .int .u64 0] 62) (some w.heap.size)) hg)
  clear hc hg
  go_wp2_with fail
  refine (word_any w.heap.size _ z _ HC.out (by omega)).mono ?_
  rintro e w2 ⟨b, _, _, rfl, hc, hg⟩
  have HG2 := Lib.hid (g_trans HG.out hg)
  clear hc hg
  go_wp2_with fail
  go_ret2
  exact ⟨a, b, rfl, gbelow HG2.out (Nat.le_refl _) (Nat.le_refl _)⟩
theorem drawSwap_any (v : Value) (z : List Int) (w : World) (hrow : Row w v z.length (z.map (Value.int .u8))) (hz : ∀ x ∈ z, 0 ≤ x ∧ x < 256) :
    Calls Try.prog 40 #[v] w fun e w' => ∃ a : Int, e = .returned (.int .i64 a) ∧ Below w.heap.size w w' := by
  have HC0 := Lib.hid (cu_new w v z hrow hz)
  obtain ⟨a0, cap0, rfl, _, _, _⟩ := row_open hrow
  clear hrow hz
  go_enter Try.func40, Try.ntmps40
  go_wp2_with fail
  refine (word_any w.heap.size 0 z _ HC0.out (by omega)).mono ?_
  rintro e w1 ⟨a, _, _, rfl, hc, hg⟩
  have HG := Lib.hid (g_trans (World.grownBy_alloc w (.cells #[.slice a0 z.length cap0, .int .i64 0, .int .u64 0] 62) (some w.heap.size)) hg)
  clear hc hg
  go_wp2_with fail
  go_ret
  exact ⟨a, rfl, gbelow HG.out (Nat.le_refl _) (Nat.le_refl _)⟩
def byteL : List Int := [0, 1, 65, 127, 128, 255]
theorem byteL_bd : ∀ x ∈ byteL, 0 ≤ x ∧ x ≤ 255 := by
  intro x hx
  simp only [byteL, List.mem_cons, List.not_mem_nil, or_false] at hx
  omega
theorem bytes_one (x : Int) (W : World) : ∃ b1 : ByteArray, b1.size = 1 ∧ (convert 22 9 (.slice (some ⟨W.heap.size, 0, none⟩) 1 1)).run Try.prog (W.alloc (.cells #[.int .u8 x] 5)) = .ok (.string b1) (W.alloc (.cells #[.int .u8 x] 5)) :=
  ⟨strOfNums [x], rfl, run_convert_bytes_arg (P := Try.prog) _ 22 5 Try.underlying22 Try.underlying5 W.heap.size 0 1 1 [x] rfl (fun i hi => by
    obtain rfl : i = 0 := by omega
    rw [World.cell?_alloc_new]; rfl) 9 Try.underlying9⟩
set_option maxHeartbeats 2000000 in
theorem drawWordsOf_any (v : Value) (z : List Int) (w : World) (hrow : Row w v z.length (z.map (Value.int .u8))) (hz : ∀ x ∈ z, 0 ≤ x ∧ x < 256) :
    Calls Try.prog 35 #[v] w fun e w' => ∃ s : ByteArray, s.size ≤ 81 ∧ e = .returned (.string s) ∧ Below w.heap.size w w' := by
  have HC0 := Lib.hid (cu_new w v z hrow hz)
  obtain ⟨a0, cap0, rfl, _, _, _⟩ := row_open hrow
  clear hrow hz
  go_enter Try.func35, Try.ntmps35
  go_wp2_with fail
  refine (pick_any w.heap.size 0 9 z _ HC0.out (by omega) (by omega) (by omega)).mono ?_
  rintro e w1 ⟨p, hp, rfl, hc, hg⟩
  have HC := Lib.hid hc
  have HG := Lib.hid (g_trans (World.grownBy_alloc w (.cells #[.slice a0 z.length cap0, .int .i64 0, .int .u64 0] 62) (some w.heap.size)) hg)
  clear hc hg
  go_wp2_with fail
  go_loopw [4, 5] (fun t q wr => ∃ (k : Nat) (s : ByteArray), s.size + k ≤ 8 ∧ q = .int .i64 k ∧ t = .string s ∧ Hid (Cu wr w.heap.size z (2 + 2 * s.size)) ∧ Hid (w.grownBy wr (some w.heap.size))) (fun _ q _ => (intOf q).toNat)
  case atStart => exact ⟨p, ⟨#[]⟩, by show 0 + p ≤ 8; omega, rfl, rfl, HC, HG⟩
  case round =>
    clear HC HG HC0
    obtain ⟨k, s, hk, rfl, rfl, HC, HG⟩ := hrel
    by_cases hk0 : 0 < k
    · go_wp2_with fail
      refine (among_any w.heap.size (2 + 2 * s.size) z _ byteL _ (HC.out.grown (World.grownBy_alloc _ _ none)) (by omega) (by decide) (by decide) (fun w' hg => row_fresh (xs := byteL.map (Value.int .i64)) (n := byteL.length) (List.length_map _).symm (by decide) HC.out.lt hg)).mono ?_
      rintro e w2 ⟨x, hx, rfl, hc2, hg2⟩
      obtain ⟨x0, x1⟩ := byteL_bd x hx
      have HC2 := Lib.hid hc2
      have HG2 := Lib.hid (g_trans HG.out (g_trans (World.grownBy_alloc _ _ _) hg2))
      clear hx hc2 hg2
      obtain ⟨b1, hb1, hx⟩ := bytes_one x w2
      have hsz : (s ++ b1).size = s.size + 1 := by rw [ByteArray.size_append, hb1]
      have hsm : s.size + b1.size ≤ 9223372036854775807 := by omega
      go_wp2_with fail
      go_roundw
      case rel => exact ⟨k - 1, s ++ b1, by omega, by congr 1; omega, rfl, Lib.hid ((HC2.out.grown (World.grownBy_alloc _ _ none)).mono (by omega)), Lib.hid (g_trans HG2.out (World.grownBy_alloc _ _ _))⟩
      case measure => (first | (simp [intOf]; done) | (simp [intOf]; omega))
    · obtain rfl : k = 0 := by omega
      go_wp2_with fail
      refine (one_any w.heap.size (2 + 2 * s.size) 24 z _ HC.out (by omega) (by omega) (by omega)).mono ?_
      rintro e w2 ⟨b, rfl, hc2, hg2⟩
      have HC2 := Lib.hid hc2
      have HG2 := Lib.hid (g_trans HG.out hg2)
      clear hc2 hg2
      cases b with
      | true =>
        go_wp2_with fail
        go_loopw [4] (fun t wr => ∃ s : ByteArray, s.size ≤ 81 ∧ t = .string s ∧ Hid (Cu wr w.heap.size z (50 + 2 * s.size)) ∧ Hid (w.grownBy wr (some w.heap.size))) (fun t _ => 81 - (match t with | .string s => s.size | _ => 0))
        case atStart => exact ⟨s, by omega, rfl, Lib.hid (HC2.out.mono (by omega)), HG2⟩
        case round =>
          clear HC HG HC2 HG2 hk
          obtain ⟨s, hs, rfl, HC, HG⟩ := hrel
          go_wp2_with fail
          refine (pick_any w.heap.size (50 + 2 * s.size) 3 z _ HC.out (by omega) (by omega) (by omega)).mono ?_
          rintro e w4 ⟨b, hb, rfl, hc4, hg4⟩
          have HC4 := Lib.hid hc4
          have HG4 := Lib.hid (g_trans HG.out hg4)
          clear hc4 hg4
          by_cases hgo : s.size < 79 + b
          · have hg1' : (s.size : Int) < 79 + (b : Int) := by omega
            have hsz : (s ++ ⟨#[120]⟩ : ByteArray).size = s.size + 1 := by rw [ByteArray.size_append]; rfl
            have hsm : s.size + (⟨#[120]⟩ : ByteArray).size ≤ 9223372036854775807 := by show s.size + 1 ≤ _; omega
            go_wp2_with fail
            go_roundw
            case rel => exact ⟨s ++ ⟨#[120]⟩, by omega, rfl, Lib.hid (HC4.out.mono (by omega)), HG4⟩
            case measure => (first | (show 81 - (s ++ (⟨#[120]⟩ : ByteArray)).size < 81 - s.size; rw [hsz]; omega) | trace_state)
          · have hg1' : ¬ (s.size : Int) < 79 + (b : Int) := by omega
            go_wp2_with fail
            go_ret
            exact ⟨s, hs, rfl, gbelow HG4.out (Nat.le_refl _) (Nat.le_refl _)⟩
      | false =>
        go_wp2_with fail
        go_ret
        exact ⟨s, by omega, rfl, gbelow HG2.out (Nat.le_refl _) (Nat.le_refl _)⟩
def tsL : List ByteArray := [⟨#[]⟩, ⟨#[97]⟩, ⟨#[97, 98]⟩, ⟨#[97, 98, 99]⟩, ⟨([120, 120, 120, 120, 120, 120, 120, 120, 120, 120, 120, 120, 120, 120, 120, 120, 120, 120, 120, 120, 120, 120, 120, 120, 120, 120, 120, 120, 120, 120, 120, 120, 120, 120, 120, 120, 120, 120, 120, 120].append [120, 120, 120, 120, 120, 120, 120, 120, 120, 120, 120, 120, 120, 120, 120, 120, 120, 120, 120, 120, 120, 120, 120, 120, 120, 120, 120, 120, 120, 120, 120, 120, 120, 120, 120, 120, 120, 120, 120, 120]).toArray⟩]
theorem tsL_size : ∀ x ∈ tsL, x.size ≤ 80 := by
  intro x hx
  simp only [tsL, List.mem_cons, List.not_mem_nil, or_false] at hx
  rcases hx with rfl | rfl | rfl | rfl | rfl <;> decide
set_option maxHeartbeats 2000000 in
theorem drawTextSum_any (v : Value) (z : List Int) (w : World) (hrow : Row w v z.length (z.map (Value.int .u8))) (hz : ∀ x ∈ z, 0 ≤ x ∧ x < 256) :
    Calls Try.prog 31 #[v] w fun e w' => ∃ s t : ByteArray, s.size ≤ 81 ∧ t.size ≤ 80 ∧ e = .returned (.tuple #[.string s, .string t]) ∧ Below w.heap.size w w' := by
  have HC0 := Lib.hid (cu_new w v z hrow hz)
  have HW := Lib.hid (fun w1 (hb : Below w.heap.size w w1) => drawWordsOf_any v z w1 (hrow.below hb (Nat.le_refl _)) hz)
  obtain ⟨a0, cap0, rfl, _, _, _⟩ := row_open hrow
  clear hrow hz
  have HB0 := Lib.hid ((Below.refl w.heap.size w).alloc (Nat.le_refl _) (.cells #[.slice a0 z.length cap0, .int .i64 0, .int .u64 0] 62))
  go_enter Try.func31, Try.ntmps31
  go_wp2_with fail
  refine (HW.out _ HB0.out).mono ?_
  rintro e w1 ⟨s, hs, rfl, hb⟩
  have HC1 := Lib.hid (HC0.out.grown (grown_of_below hb))
  have HB1 := Lib.hid (HB0.out.trans (hb.mono HB0.out.size))
  clear hb
  go_wp2_with fail
  refine (of_any w.heap.size 0 z _ tsL _ (HC1.out.grown (World.grownBy_alloc _ _ none)) (by omega) (by decide) (by decide) (fun w' hg => row_fresh (xs := tsL.map Value.string) (n := tsL.length) (List.length_map _).symm (by decide) HC1.out.lt hg)).mono ?_
  rintro e w2 ⟨t, ht, rfl, hc, hg⟩
  have HT := Lib.hid (tsL_size t ht)
  have HB2 := Lib.hid ((HB1.out.alloc HB1.out.size (.cells (tsL.map Value.string).toArray 9)).grown hg (by have := HB1.out.size; simp; omega) (fun k hk => by have e : w.heap.size = k := Option.some.inj hk; omega))
  clear ht hc hg
  go_wp2_with fail
  go_ret2
  exact ⟨s, t, hs, HT.out, rfl, HB2.out⟩
end Go.Proofs.Ytofpajbfajcjgaa
