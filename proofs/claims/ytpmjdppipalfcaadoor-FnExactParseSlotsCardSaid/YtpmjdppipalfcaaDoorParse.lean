/-
  ParseInt of the program, and its exact law.
-/
import Derived.Test.YtpmjdppipalfcaaDoorTab
import Derived.Test.YtpmjdppipalfcaaDoorRead
import Derived.Stop.LaidErr
namespace Go.Proofs.YtpmjdppipalfcaaDoor
open Go.RowKit

theorem gSyn : Tryd.prog.globalNamed "strconv.ErrSyntax" = some 3 := by kernel_rfl
theorem gRng : Tryd.prog.globalNamed "strconv.ErrRange" = some 4 := by kernel_rfl
theorem gSynType : (Tryd.prog.globals[3]?).map (·.type) = some 117 := by kernel_rfl
theorem gRngType : (Tryd.prog.globals[4]?).map (·.type) = some 117 := by kernel_rfl

/-- The two errors of the library hold something. -/
def Errs (w : World) : Prop := (∃ tp p, w.var? Tryd.prog "strconv.ErrSyntax" = some #[.iface tp p]) ∧ (∃ tp p, w.var? Tryd.prog "strconv.ErrRange" = some #[.iface tp p])

theorem var_lt {w : World} {n : String} {g : Nat} {v : Value} (hg : Tryd.prog.globalNamed n = some g) (h : w.var? Tryd.prog n = some #[v]) : g < w.heap.size := by
  have := World.var?_cell hg h 0
  exact World.block_lt_of_cell? w (u := v) ⟨g, 0, none⟩ (by simpa using this)

theorem Errs.below {w w' : World} (h : Errs w) (hb : Below w.heap.size w w') : Errs w' := by
  obtain ⟨⟨t1, p1, h1⟩, ⟨t2, p2, h2⟩⟩ := h
  exact ⟨⟨t1, p1, var?_below hb gSyn (var_lt gSyn h1) h1⟩, ⟨t2, p2, var?_below hb gRng (var_lt gRng h2) h2⟩⟩

theorem plain_laid {w : World} {l : List (String × DataW Unit)} (h : laidMetH Tryd.prog l w) (hp : (l.filter fun x => x.2.handleName?.isSome) = []) : laidMet Tryd.prog l w := by
  unfold laidMetH at h
  rw [hp] at h
  exact h

theorem err_of_laid {w : World} {l : List (String × DataW Unit)} {n nm : String} {d : DataW Unit} {g : Nat} (h : laidMet Tryd.prog l w) (hm : (n, DataW.iface nm d) ∈ l)
    (hg : Tryd.prog.globalNamed n = some g) (ht : (Tryd.prog.globals[g]?).map (·.type) = some 117) : ∃ tp p, w.var? Tryd.prog n = some #[.iface tp p] := by
  obtain ⟨g', t, cs, fuel, p, hg', hty, hv, hd⟩ := Lib.laidMet.reads h hm
  obtain rfl := Option.some.inj (hg.symm.trans hg')
  obtain rfl := Option.some.inj (ht.symm.trans hty)
  obtain ⟨f1, u, v, hcs, _⟩ := iface_of_trod Tryd.underlying117 hd
  refine ⟨u, v, ?_⟩
  rw [hv]
  congr 1
  cases cs
  simp at hcs
  rw [hcs]

theorem errs_of_laid {w : World} {l : List (String × DataW Unit)} (h : laidMetH Tryd.prog l w) (hp : (l.filter fun x => x.2.handleName?.isSome) = [])
    (h1 : ("strconv.ErrSyntax", (Rows.laid_strconv_ErrSyntax : DataW Unit)) ∈ l) (h2 : ("strconv.ErrRange", (Rows.laid_strconv_ErrRange : DataW Unit)) ∈ l) : Errs w :=
  ⟨err_of_laid (plain_laid h hp) h1 gSyn gSynType, err_of_laid (plain_laid h hp) h2 gRng gRngType⟩

theorem PR.fails {s : ByteArray} (h : ∀ v, Lib.atoiAll s.data.toList ≠ .ok v) : ∀ m : Int, M.inR m → Lib.itoa m ≠ s.data.toList := fun m hm he => by
  have := M.atoiAll_itoa hm
  rw [he] at this
  exact h m this
theorem PR.other {s : ByteArray} {v : Int} (h : Lib.atoiAll s.data.toList = .ok v) (hne : ¬ (M.inR v ∧ Lib.itoa v = s.data.toList)) : ∀ m : Int, M.inR m → Lib.itoa m ≠ s.data.toList := fun m hm he => by
  have := M.atoiAll_itoa hm
  rw [he, h] at this
  obtain rfl : v = m := by injection this
  exact hne ⟨hm, he⟩
theorem PR.ne {s : ByteArray} {v : Int} (h : Lib.atoiAll s.data.toList = .ok v) (hne : (!Lib.itoa v == s.toList) = true) : PR s (.returned (.tuple #[.int .i64 0, .bool false])) :=
  PR.no (PR.other h fun hh => of_ne hne (by rw [hh.2]))

set_option maxHeartbeats 400000 in
theorem implParseInt_any (s : ByteArray) (hs : s.size ≤ 1048576) (w : World) (ht : Tab w) (he : Errs w) :
    Calls Tryd.prog 89 #[.string s] w fun e w' => PR s e ∧ Below w.heap.size w w' := by
  have hs1 : s.size ≤ 281474976710656 := by omega
  have hs2 : s.size ≤ 9223372036854775806 := by omega
  have H1 := Lib.hid hs1
  have H2 := Lib.hid hs2
  clear hs1 hs2
  cases ha : Lib.atoiAll s.data.toList with
  | ok v =>
    have HA := Lib.hid ha
    clear ha
    have hc : Calls Tryd.prog 96 #[.string s] w fun e w' => e = .returned (.tuple #[.int .i64 v, .nilIface]) ∧ Below w.heap.size w w' :=
      (Tryd.strconv_Atoi_ok s H2.out v HA.out w).mono fun e w' ⟨h1, h2⟩ => ⟨h1, by
        rcases h2 with rfl | ⟨t, rfl⟩
        · exact Below.refl _ _
        · exact Lib.bytesWorld_below _ _ _⟩
    have HC := Lib.hid hc
    clear hc
    by_cases hr : -999999 ≤ v ∧ v ≤ 999999
    · have HF := Lib.hid (fmtOut_yes hr)
      have HR := Lib.hid hr
      clear hr
      go_enter Tryd.func89, Tryd.ntmps89
      go_wp2_with (first | (go_at_call 96; refine HC.out.mono ?_; rintro e w1 ⟨rfl, hb1⟩) | (go_at_call 97; refine (implFormatInt_any _ _ (ht.below hb1)).mono ?_; rintro e w2 ⟨rfl, hb2⟩; rw [HF.out]))
      · go_ret2
        exact ⟨PR.ne HA.out (by assumption), hb1.trans (hb2.mono hb1.size)⟩
      · go_ret2
        exact ⟨PR.yes HR.out (of_eq (by assumption)), hb1.trans (hb2.mono hb1.size)⟩
    · have HF := Lib.hid (fmtOut_no hr)
      have HR := Lib.hid hr
      clear hr
      go_enter Tryd.func89, Tryd.ntmps89
      go_wp2_with (first | (go_at_call 96; refine HC.out.mono ?_; rintro e w1 ⟨rfl, hb1⟩) | (go_at_call 97; refine (implFormatInt_any _ _ (ht.below hb1)).mono ?_; rintro e w2 ⟨rfl, hb2⟩; rw [HF.out]))
      go_ret2
      exact ⟨PR.no (PR.other HA.out fun hh => HR.out hh.1), hb1.trans (hb2.mono hb1.size)⟩
  | «syntax» =>
    have HN := Lib.hid (PR.fails (s := s) (fun v hv => by rw [ha] at hv; cases hv))
    obtain ⟨tp, p, hv⟩ := he.1
    have HC := Lib.hid (Tryd.strconv_Atoi_syntax_var s H1.out ha tp p w hv)
    clear ha hv
    go_enter Tryd.func89, Tryd.ntmps89
    go_wp2_with (go_at_call 96; refine HC.out.mono ?_; rintro e w1 ⟨N, rfl, _, _, hb1⟩)
    go_ret2
    exact ⟨PR.no HN.out, hb1⟩
  | range =>
    have HN := Lib.hid (PR.fails (s := s) (fun v hv => by rw [ha] at hv; cases hv))
    obtain ⟨tp, p, hv⟩ := he.2
    have HC := Lib.hid (Tryd.strconv_Atoi_range_var s H1.out ha tp p w hv)
    clear ha hv
    go_enter Tryd.func89, Tryd.ntmps89
    go_wp2_with (go_at_call 96; refine HC.out.mono ?_; rintro e w1 ⟨N, rfl, _, _, hb1⟩)
    go_ret2
    exact ⟨PR.no HN.out, hb1⟩
end Go.Proofs.YtpmjdppipalfcaaDoor
